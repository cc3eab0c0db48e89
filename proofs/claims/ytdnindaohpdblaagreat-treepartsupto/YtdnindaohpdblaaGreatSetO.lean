import Derived.Orders
import Derived.Below
import Derived.Tactics
import Derived.Laws.AppendOwn
import Derived.Test.YtdnindaohpdblaaGreatSetZ
import Derived.Deep.MidRow
set_option linter.all false
namespace Go.Proofs.YtdnindaohpdblaaGreat
open Go Go.RowKit
set_option maxRecDepth 20000
set_option maxHeartbeats 16000000
abbrev Pr:=Value->World->Prop
structure Ev (B:Nat->Prop) (w w':World):Prop where
 os:w'.os=w.os
 tape:w'.tape=w.tape
 output:w'.output=w.output
 size:w.heap.size<=w'.heap.size
 block:∀ k,k < w.heap.size->¬ B k->w'.heap[k]? = w.heap[k]?
theorem Ev.refl (B:Nat->Prop)(w:World):Ev B w w:=⟨rfl,rfl,rfl,zha _,fun _ _ _=>rfl⟩
theorem Ev.of_below {B:Nat->Prop}{w w':World}(h:Below w.heap.size w w'):Ev B w w':=⟨h.os,h.tape,h.output,h.size,fun k hk _=>h.block k hk⟩
theorem Ev.back {B B':Nat->Prop}{w w' w'':World}(h1:Ev B w w')(hB:∀ k,k < w.heap.size->B' k->B k)(h:Ev B' w' w''):Ev B w w'':=
 ⟨h.os.trans h1.os,h.tape.trans h1.tape,h.output.trans h1.output,zhb h1.size h.size,fun k hk hn =>
  (h.block k (zhe hk h1.size) (fun hb=>hn (hB k hk hb))).trans (h1.block k hk hn)⟩
def Has (B:Nat->Prop)(w:World)(φ:Pr)(v:Value):Prop:=∀ w',Ev B w w'->φ v w'
theorem Has.now {B:Nat->Prop}{w:World}{φ:Pr}{v:Value}(h:Has B w φ v):φ v w:=h w (Ev.refl _ _)
theorem Has.go {B B':Nat->Prop}{w w':World}{φ:Pr}{v:Value}(h:Has B w φ v)(e:Ev B w w')(hB:∀ k,k < w.heap.size->B' k->B k):Has B' w' φ v:=fun w'' e''=>h w'' (e.back hB e'')
theorem Has.imp {B:Nat->Prop}{w:World}{φ ψ:Pr}{v:Value}(h:Has B w φ v)(hi:∀ w,φ v w->ψ v w):Has B w ψ v:=fun w' e=>hi w' (h w' e)
def vblock:Value->Option Nat
 | .pointer (some a)=>some a.block
 | .slice (some a) _ _=>some a.block
 | _=>none
inductive Rk where
 | box (T:TypeId) (φ:Pr)
 | row (e:TypeId) (size n:Nat) (χ:List Value->World->Prop)
 | own (S:Nat->Prop) (e:TypeId) (χ:(Nat->List Value)->World->Prop)
def Rk.set:Rk->Value->Nat->Prop
 | .own S _ _,_,b=>S b
 | .box _ _,v,b=>vblock v=some b
 | .row _ _ _ _,v,b=>vblock v=some b
def Rk.at (lo:Nat)(B:Nat->Prop)(w:World)(v:Value):Rk->Prop
 | .box T φ=>∃ (b:Nat) (u:Value),v=.pointer (some ⟨b,0,none⟩)/\B b/\w.heap[b]? = some (.cells u.cells T (0,0))/\Has B w φ u
 | .row e size n χ=>∃ xs:List Value,w.ownsRow lo e size v n xs/\(∀ b,vblock v=some b->B b)/\∀ w',Ev B w w'->χ xs w'
 | .own S e χ=>∃ C:Nat->List Value,(∀ b,S b->B b/\w.heap[b]? = some (.cells (C b).toArray e (0,0)))/\∀ w',Ev B w w'->χ C w'
theorem Rk.inB {lo:Nat}{B:Nat->Prop}{w:World}{v:Value}{r:Rk}(h:r.at lo B w v){b:Nat}(hb:r.set v b):B b/\b < w.heap.size:=by
 cases r with
 | own S e χ =>
  obtain ⟨C,h1,_⟩:=h
  exact ⟨(h1 b hb).1,(zhf.1 (h1 b hb).2).1⟩
 | box T φ =>
  obtain ⟨b',u,rfl,h1,h2,_⟩:=h
  simp [Rk.set,vblock] at hb
  subst hb
  exact ⟨h1,(zhf.1 h2).1⟩
 | row e size n χ =>
  obtain ⟨xs,⟨_,h1⟩,h2,_⟩:=h
  refine ⟨h2 b hb,?_⟩
  rcases h1 with ⟨rfl,_⟩ | ⟨g,cap,cur,rfl,_,hg,_⟩
  ·simp [Rk.set,vblock] at hb
  ·simp [Rk.set,vblock] at hb
   subst hb
   exact (zhf.1 hg).1
theorem Rk.go {lo:Nat}{B B':Nat->Prop}{w w':World}{v:Value}{r:Rk}(h:r.at lo B w v)(hs:∀ b,r.set v b->w'.heap[b]? = w.heap[b]?)(e:Ev B w w')(hB:∀ k,k < w.heap.size->B' k->B k)(hB':∀ k,B k->B' k):r.at lo B' w' v:=by
 cases r with
 | own S el χ =>
  obtain ⟨C,h1,h2⟩:=h
  exact ⟨C,fun b hb=>⟨hB' b (h1 b hb).1,(hs b hb).trans (h1 b hb).2⟩,fun w'' e''=>h2 w'' (e.back hB e'')⟩
 | box T φ =>
  obtain ⟨b,u,rfl,h1,h2,h3⟩:=h
  exact ⟨b,u,rfl,hB' b h1,(hs b (show vblock _=some b from rfl)).trans h2,h3.go e hB⟩
 | row el size n χ =>
  obtain ⟨xs,⟨h0,h1⟩,h2,h3⟩:=h
  refine ⟨xs,⟨h0,?_⟩,fun b hb=>hB' b (h2 b hb),fun w'' e''=>h3 w'' (e.back hB e'')⟩
  rcases h1 with h1 | ⟨g,cap,cur,rfl,a1,a2,a3⟩
  ·exact Or.inl h1
  ·exact Or.inr ⟨g,cap,cur,rfl,a1,(hs g (show vblock _=some g from rfl)).trans a2,a3⟩
def upd {α:Type}(f:Nat->α)(i:Nat)(x:α):Nat->α:=fun j=>if j=i then x else f j
theorem yhq {α:Type}(f:Nat->α)(i:Nat)(x:α):upd f i x i=x:=by simp [upd]
theorem yfl {α:Type}(f:Nat->α){i j:Nat}(x:α)(h:j≠i):upd f i x j=f j:=by simp [upd,h]
def fillL:List Oper->Nat->(Nat->Bool)->(Nat->Value)->Act->Act
 | [],_,_,_,a=>a
 | o :: r,k,L,vs,a=>fillL r (k+1) L vs (if L k=true then a.put o.dst (vs k) else a)
theorem yi1:∀ (l:List Oper) (k:Nat) (L L':Nat->Bool) (vs vs':Nat->Value) (a:Act),(∀ j,k<=j->L j=L' j/\(L j=true->vs j=vs' j))->fillL l k L vs a=fillL l k L' vs' a
 | [],_,_,_,_,_,_,_=>rfl
 | o :: r,k,L,L',vs,vs',a,h=>by
  have h0:=h k (zha _)
  simp only [fillL]
  rw [yi1 r (k+1) L L' vs vs' _ (fun j hj=>h j (by omega)),h0.1]
  by_cases e:L' k=true
  ·rw [if_pos e,if_pos e,h0.2 (h0.1.trans e)]
  ·rw [if_neg e,if_neg e]
def apartFrom (x:Option Tmp)(o:Oper):Bool:=match x with | none=>true | some d=>o.dst != some d
theorem ymq:∀ (l:List Oper) (k:Nat) (L:Nat->Bool) (vs:Nat->Value) (a:Act) (x:Option Tmp) (v:Value),l.all (apartFrom x)=true->(fillL l k L vs a).put x v=fillL l k L vs (a.put x v)
 | [],_,_,_,_,_,_,_=>rfl
 | o :: r,k,L,vs,a,x,v,h=>by
  simp only [List.all_cons,zh0] at h
  simp only [fillL]
  rw [ymq r (k+1) L vs _ x v h.2]
  by_cases e:L k=true
  ·rw [if_pos e,if_pos e,Act.put_comm a _ _ (fun d hd hx=>by
    have:=h.1
    simp only [apartFrom,hx] at this
    simp [hd] at this)]
  ·rw [if_neg e,if_neg e]
def dstsOk:List Oper->Bool
 | []=>true
 | o :: r=>r.all (apartFrom o.dst) && dstsOk r
theorem yj9:∀ (l:List Oper) (k j:Nat) (o:Oper) (L:Nat->Bool) (vs:Nat->Value) (a:Act) (v:Value),dstsOk l=true->l[j]? = some o->L (k+j)=false →
  (fillL l k L vs a).put o.dst v=fillL l k (upd L (k+j) true) (upd vs (k+j) v) a
 | [],_,_,_,_,_,_,_,_,h,_=>by cases h
 | p :: r,k,0,o,L,vs,a,v,hd,h,hL=>by
  simp only [dstsOk,zh0] at hd
  simp only [zil,Option.some.injEq] at h
  subst h
  have hL:L k=false:=hL
  simp only [fillL,zif,yhq,if_true,hL,zj5,if_false]
  rw [ymq r (k+1) L vs a p.dst v hd.1]
  exact yi1 r (k+1) _ _ _ _ _ (fun j hj=>⟨(yfl _ _ (by omega)).symm,fun _=>(yfl _ _ (by omega)).symm⟩)
 | p :: r,k,j+1,o,L,vs,a,v,hd,h,hL=>by
  simp only [dstsOk,zh0] at hd
  simp only [zjd] at h
  simp only [fillL]
  rw [yj9 r (k+1) j o L vs _ v hd.2 h (by rw [show k+1+j=k+(j+1) from by omega]; exact hL)]
  rw [show k+1+j=k+(j+1) from by omega,yfl _ _ (by omega:k≠k+(j+1)),yfl _ _ (by omega:k≠k+(j+1))]
theorem yc7 (a:Act)(x:Option Tmp)(v:Value):(a.put x v).tmps.size=a.tmps.size:=by cases x <;> simp [Act.put]
theorem yg6 (a:Act)(x:Option Tmp)(v:Value):(a.put x v).defers=a.defers:=by cases x <;> simp [Act.put]
theorem yj8:∀ (l:List Oper) (k:Nat) (L:Nat->Bool) (vs:Nat->Value) (a:Act),(fillL l k L vs a).tmps.size=a.tmps.size/\(fillL l k L vs a).defers=a.defers
 | [],_,_,_,_=>⟨rfl,rfl⟩
 | o :: r,k,L,vs,a=>by
  simp only [fillL]
  have:=yj8 r (k+1) L vs (if L k=true then a.put o.dst (vs k) else a)
  rw [this.1,this.2]
  by_cases e:L k=true
  ·rw [if_pos e]; exact ⟨yc7 _ _ _,yg6 _ _ _⟩
  ·rw [if_neg e]; exact ⟨rfl,rfl⟩
theorem yft:∀ (l:List Oper) (k:Nat) (L:Nat->Bool) (vs:Nat->Value) (a:Act) (t:Tmp),l.all (apartFrom (some t))=true->(fillL l k L vs a).eval (.tmp t)=a.eval (.tmp t)
 | [],_,_,_,_,_,_=>rfl
 | o :: r,k,L,vs,a,t,h=>by
  simp only [List.all_cons,zh0] at h
  simp only [fillL]
  rw [yft r (k+1) L vs _ t h.2]
  by_cases e:L k=true
  ·rw [if_pos e]
   refine Act.eval_put (fun d hd=>?_)
   have:=h.1
   simp only [apartFrom] at this
   intro e'
   simp at e'
   subst e'
   simp [hd] at this
  ·rw [if_neg e]
theorem yf6:∀ (l:List Oper) (k:Nat) (L:Nat->Bool) (vs:Nat->Value) (a:Act) (t:Tmp),(∀ j o,l[j]? = some o->L (k+j)=true->o.dst≠some t)->(fillL l k L vs a).eval (.tmp t)=a.eval (.tmp t)
 | [],_,_,_,_,_,_=>rfl
 | o :: r,k,L,vs,a,t,h=>by
  simp only [fillL]
  rw [yf6 r (k+1) L vs _ t (fun j o' ho' hL=>h (j+1) o' (by simpa using ho') (by rw [show k+(j+1)=k+1+j from by omega]; exact hL))]
  by_cases e:L k=true
  ·rw [if_pos e]
   refine Act.eval_put (fun d hd=>?_)
   intro e'
   simp at e'
   subst e'
   exact h 0 o rfl e hd
  ·rw [if_neg e]
theorem yk7:∀ (l:List Oper) (k j:Nat) (o:Oper) (L:Nat->Bool) (vs:Nat->Value) (a:Act) (d:Tmp),dstsOk l=true->l[j]? = some o->L (k+j)=true->o.dst=some d->d < a.tmps.size →
  (fillL l k L vs a).eval (.tmp d)=vs (k+j)
 | [],_,_,_,_,_,_,_,_,h,_,_,_=>by cases h
 | p :: r,k,0,o,L,vs,a,d,hd,h,hL,hdst,hlt=>by
  simp only [dstsOk,zh0] at hd
  simp only [zil,Option.some.injEq] at h
  subst h
  have hL:L k=true:=hL
  simp only [fillL,hL,if_true]
  rw [yft r (k+1) L vs _ d (by rw [← hdst]; exact hd.1),hdst]
  simp [Act.eval,Act.put,hlt]
 | p :: r,k,j+1,o,L,vs,a,d,hd,h,hL,hdst,hlt=>by
  simp only [dstsOk,zh0] at hd
  simp only [zjd] at h
  simp only [fillL]
  rw [yk7 r (k+1) j o L vs _ d hd.2 h (by rw [show k+1+j=k+(j+1) from by omega]; exact hL) hdst,show k+1+j=k+(j+1) from by omega]
  by_cases e:L k=true
  ·rw [if_pos e,yc7]; exact hlt
  ·rw [if_neg e]; exact hlt
abbrev Id:=Tmp ⊕ Nat
inductive Kd where
 | val (φ:Pr)
 | new (r:Rk)
 | put (x:Id) (r:Rk)
 | turn (x:Id) (r:Rk) (φ:Pr)
 | mov (t:Tmp) (r:Rk)
 | ref (j:Nat)
 | off
def Kd.made:Kd->Bool
 | .new _=>true
 | .mov _ _=>true
 | _=>false
def Kd.rk:Kd->Option Rk
 | .new r=>some r
 | .mov _ r=>some r
 | _=>none
def Kd.turns:Kd->Option Id
 | .put x _=>some x
 | .turn x _ _=>some x
 | .mov t _=>some (.inl t)
 | _=>none
def Kd.vl:Kd->Option Pr
 | .val φ=>some φ
 | .turn _ _ φ=>some φ
 | _=>none
def Kd.pt:Kd->Option (Id × Rk)
 | .put x r=>some (x,r)
 | .turn x r _=>some (x,r)
 | _=>none
theorem Kd.pt_turns {k:Kd}{x:Id}{r:Rk}(h:k.pt=some (x,r)):k.turns=some x:=by
 cases k <;> simp [Kd.pt] at h <;> (obtain ⟨rfl,rfl⟩:=h; rfl)
theorem Kd.pt_mov {k:Kd}{p:Id × Rk}(h:k.pt=some p){t:Tmp}{r:Rk}:k ≠ .mov t r:=fun e=>by rw [e] at h; cases h
theorem Kd.vl_off {k:Kd}{p:Pr}(h:k.vl=some p):k ≠ .off:=fun e=>by rw [e] at h; cases h
def Kd.isPut:Kd->Bool
 | .put _ _=>true
 | .turn _ _ _=>true
 | _=>false
def depsOf (ops:Array Oper)(i:Nat):List Nat:=
 match ops[i]? with
 | none=>[]
 | some o=>o.after.toList.filterMap fun e=>if Region.binds .any e then some e.on else none
def dstOf (ops:Array Oper)(j:Nat):Option Tmp:=(ops[j]?).bind (·.dst)
abbrev Bxs:=List (Tmp × Rk)
def kdAt (l:List Kd)(i:Nat):Kd:=l.getD i .off
def shapeOk (ops:Array Oper)(l:List Kd)(bx:List Tmp)(n:Nat):Bool:=
 dstsOk ops.toList && bx.Nodup &&
 ops.toList.all (fun o=>match o.dst with | some d=>decide (d < n) | none=>true) &&
 (List.range ops.size).all (fun i=>(depsOf ops i).all fun j=>decide (j < i)) &&
 (List.range ops.size).all (fun i=>!(kdAt l i).made || (dstOf ops i).isSome) &&
 (List.range ops.size).all (fun i=>match kdAt l i with | .ref j=>(depsOf ops i).contains j && (kdAt l j).made | _=>true) &&
 (List.range ops.size).all (fun i=>match (kdAt l i).turns with
  | none=>true
  | some x=>(match x with | .inl t=>bx.contains t | .inr j=>(depsOf ops i).contains j && (kdAt l j).made) &&
    (List.range ops.size).all (fun i'=>decide ((kdAt l i').turns≠some x) || i' == i || ((kdAt l i).isPut && (kdAt l i').isPut && ((depsOf ops i').contains i || (depsOf ops i).contains i'))))
structure Shape (ops:Array Oper) (l:List Kd) (bx:Bxs) (n:Nat):Prop where
 dsts:dstsOk ops.toList=true
 nd:(bx.map (·.1)).Nodup
 slot:∀ i d,dstOf ops i=some d->d < n
 low:∀ i j,i < ops.size->j ∈ depsOf ops i->j < i
 made:∀ i,i < ops.size->(kdAt l i).made=true->∃ t,dstOf ops i=some t
 refs:∀ i j,i < ops.size->kdAt l i=.ref j->j ∈ depsOf ops i/\(kdAt l j).made=true
 tslot:∀ i t,i < ops.size->(kdAt l i).turns=some (.inl t)->t ∈ bx.map (·.1)
 tnew:∀ i j,i < ops.size->(kdAt l i).turns=some (.inr j)->j ∈ depsOf ops i/\(kdAt l j).made=true
 ord:∀ i i' x,i < ops.size->i' < ops.size->(kdAt l i).turns=some x->(kdAt l i').turns=some x->i'=i\/((kdAt l i).isPut=true/\(kdAt l i').isPut=true/\(i ∈ depsOf ops i'\/i' ∈ depsOf ops i))
theorem yl4 {ops:Array Oper}{l:List Kd}{bx:Bxs}{n:Nat}(h:shapeOk ops l (bx.map (·.1)) n=true):Shape ops l bx n:=by
 simp only [shapeOk,zh0,zjo,zk5,decide_eq_true_eq] at h
 obtain ⟨⟨⟨⟨⟨⟨h1,h2⟩,h3⟩,h4⟩,h5⟩,h6⟩,h7⟩:=h
 refine ⟨h1,h2,fun i d hd=>?_,fun i j hi hj=>h4 i hi j hj,fun i hi hm=>?_,fun i j hi hk=>?_,fun i t hi hk=>?_,fun i j hi hk=>?_,fun i i' x hi hi' hk hk'=>?_⟩
 ·cases ho:ops[i]? with
  | none=>simp [dstOf,ho] at hd
  | some o =>
   simp only [dstOf,ho,Option.bind_some] at hd
   have:=h3 o (by simpa using Array.mem_of_getElem? ho)
   rw [hd] at this
   simpa using this
 ·have:=h5 i hi
  rw [hm] at this
  exact Option.isSome_iff_exists.1 (by simpa using this)
 ·have:=h6 i hi
  rw [hk] at this
  simpa [zid] using this
 ·have:=h7 i hi
  rw [hk] at this
  simp only [zh0,zid] at this
  exact this.1
 ·have:=h7 i hi
  rw [hk] at this
  simp only [zh0,zid] at this
  exact this.1
 ·have:=h7 i hi
  rw [hk] at this
  simp only [zh0,zjo,zk5] at this
  have:=this.2 i' hi'
  rw [hk'] at this
  simp only [zkz,decide_eq_true_eq,beq_iff_eq,zh0,zid] at this
  rcases this with (h | h) | h
  ·exact absurd rfl h
  ·exact Or.inl h
  ·exact Or.inr ⟨h.1.1,h.1.2,h.2⟩
structure Sta (w0:World) (n:Nat) (bx:Bxs) (sl:List (Tmp × Pr)) (B:Nat->Prop) (a:Act) (W:World):Prop where
 ent:Below w0.heap.size w0 W
 bnd:∀ k,B k->w0.heap.size<=k/\k < W.heap.size
 siz:a.tmps.size=n
 dfr:a.defers=[]
 box:∀ x ∈ bx,x.2.at w0.heap.size B W (a.eval (.tmp x.1))
 sep:∀ x ∈ bx,∀ y ∈ bx,∀ b,x.2.set (a.eval (.tmp x.1)) b->y.2.set (a.eval (.tmp y.1)) b->x.1=y.1
 slt:∀ x ∈ sl,Has B W x.2 (a.eval (.tmp x.1))
section
variable (ops:Array Oper) (l:List Kd) (bx:Bxs) (a0:Act) (vs:Nat->Value) (L:Nat->Bool)
def hnd (x:Id):Value:=match x with | .inl t=>a0.eval (.tmp t) | .inr i=>vs i
def Alive (x:Id):Prop:=(∀ i r t,L i=true->kdAt l i=.mov t r->x ≠ .inl t)/\(match x with | .inl t=>t ∈ bx.map (·.1) | .inr i=>L i=true/\(kdAt l i).made=true)
def Init (x:Id)(r:Rk):Prop:=match x with | .inl t=>(t,r) ∈ bx | .inr i=>(kdAt l i).rk=some r
def NotPut (x:Id):Prop:=∀ i r,L i=true->(kdAt l i).pt≠some (x,r)
def idset (x:Id)(b:Nat):Prop:=∃ r,Init l bx x r/\r.set (hnd a0 vs x) b
end
structure Held (ops:Array Oper) (l:List Kd) (bx:Bxs) (B0:Nat->Prop) (a0:Act) (W w0:World) (L:Nat->Bool) (vs:Nat->Value) (B:Nat->Prop) (w:World):Prop where
 ent:Below w0.heap.size w0 w
 ev:Ev B0 W w
 bnd:∀ k,B k->w0.heap.size<=k/\k < w.heap.size
 old:∀ k,k < W.heap.size->(B k ↔ B0 k)
 deps:∀ i,L i=true->i < ops.size/\∀ j ∈ depsOf ops i,L j=true
 val:∀ i φ,L i=true->(kdAt l i).vl=some φ->Has B w φ (vs i)
 rf:∀ i j,L i=true->kdAt l i=.ref j->vs i=vs j
 live:∀ x r,Alive l bx L x->Init l bx x r->NotPut l L x->r.at w0.heap.size B w (hnd a0 vs x)
 put:∀ i x r,L i=true->(kdAt l i).pt=some (x,r)->Alive l bx L x->(∀ k,L k=true->(kdAt l k).turns=some x->k<=i)->r.at w0.heap.size B w (hnd a0 vs x)
 inB:∀ x b,Alive l bx L x->idset l bx a0 vs x b->B b
 sep:∀ x y b,Alive l bx L x->Alive l bx L y->idset l bx a0 vs x b->idset l bx a0 vs y b->x=y
 pset:∀ i x r,L i=true->(kdAt l i).pt=some (x,r)->∀ b,r.set (hnd a0 vs x) b->idset l bx a0 vs x b
structure Chg (S:Nat->Prop) (w w':World):Prop where
 os:w'.os=w.os
 tape:w'.tape=w.tape
 output:w'.output=w.output
 size:w.heap.size<=w'.heap.size
 block:∀ k,k < w.heap.size->¬ S k->w'.heap[k]? = w.heap[k]?
theorem Chg.of_below {w w':World}(h:Below w.heap.size w w'):Chg (fun _=>False) w w':=⟨h.os,h.tape,h.output,h.size,fun k hk _=>h.block k hk⟩
def Kd.out (l:List Kd)(bx:Bxs)(lo:Nat)(a0:Act)(vs:Nat->Value)(B:Nat->Prop)(w:World)(v:Value)(w':World):Kd->Prop
 | .val φ=>Below w.heap.size w w'/\Has B w' φ v
 | .new r=>Below w.heap.size w w'/\(∀ b,r.set v b->w.heap.size<=b/\b < w'.heap.size)/\r.at lo (fun k=>B k\/r.set v k) w' v
 | .put x r=>Chg (idset l bx a0 vs x) w w'/\r.at lo B w' (hnd a0 vs x)/\∀ b,r.set (hnd a0 vs x) b->idset l bx a0 vs x b
 | .turn x r φ=>(Chg (idset l bx a0 vs x) w w'/\r.at lo B w' (hnd a0 vs x)/\∀ b,r.set (hnd a0 vs x) b->idset l bx a0 vs x b)/\Has B w' φ v
 | .mov t r=>Chg (idset l bx a0 vs (.inl t)) w w'/\(∀ b,r.set v b->idset l bx a0 vs (.inl t) b\/(w.heap.size<=b/\b < w'.heap.size))/\r.at lo (fun k=>B k\/r.set v k) w' v
 | .ref j=>w'=w/\v=vs j
 | .off=>w'=w
section
variable {ops:Array Oper} {l:List Kd} {bx:Bxs} {n:Nat} {B0:Nat->Prop} {a0:Act} {W w0:World} {L:Nat->Bool} {vs:Nat->Value} {B:Nat->Prop} {w w':World}
theorem yr7 {S:Nat->Prop}{lo:Nat}(h:Chg S w w')(hS:∀ k,S k->lo<=k)(hl:lo<=w.heap.size):Below lo w w':=⟨h.os,h.tape,h.output,h.size,fun k hk=>h.block k (zhe hk hl) (fun hs=>by have:=hS k hs; omega)⟩
theorem Held.step (S:Shape ops l bx n)(H:Held ops l bx B0 a0 W w0 L vs B w){i:Nat}{v:Value}(hi:i < ops.size)(hL:L i=false)(hd:∀ j ∈ depsOf ops i,L j=true)(h:(kdAt l i).out l bx w0.heap.size a0 vs B w v w'):
  ∃ B',Held ops l bx B0 a0 W w0 (upd L i true) (upd vs i v) B' w':=by
 have hne:∀ j,L j=true->j≠i:=fun j hj e=>by subst e; rw [hL] at hj; cases hj
 have hupd:∀ j,upd L i true j=true->j≠i->L j=true:=fun j hj hji=>by rwa [yfl _ _ hji] at hj
 have hkey:∀ k,L k=true->upd L i true k=true:=fun k hk=>by rw [yfl _ _ (hne k hk)]; exact hk
 have hdeps:∀ j,upd L i true j=true->j < ops.size/\∀ k ∈ depsOf ops j,upd L i true k=true:=fun j hj=>by
  by_cases e:j=i
  ·subst e; exact ⟨hi,fun k hk=>hkey k (hd k hk)⟩
  ·exact ⟨(H.deps j (hupd j hj e)).1,fun k hk=>hkey k ((H.deps j (hupd j hj e)).2 k hk)⟩
 -- a thing that lives now lived before,but for what operation i has made
 have hal:∀ x,Alive l bx (upd L i true) x->x ≠ .inr i->Alive l bx L x:=fun x hx hxi=>by
  refine ⟨fun j r t hj hk=>hx.1 j r t (hkey j hj) hk,?_⟩
  cases x with
  | inl t=>exact hx.2
  | inr j=>exact ⟨hupd j hx.2.1 (fun e=>hxi (by rw [e])),hx.2.2⟩
 have hnd':∀ x,x ≠ .inr i->hnd a0 (upd vs i v) x=hnd a0 vs x:=fun x hx=>by
  cases x with
  | inl t=>rfl
  | inr j=>exact yfl _ _ (fun e=>hx (by rw [e]))
 have hself:hnd a0 (upd vs i v) (.inr i)=v:=yhq _ _ _
 have hids:∀ x b,x ≠ .inr i->(idset l bx a0 (upd vs i v) x b ↔ idset l bx a0 vs x b):=fun x b hx=>by unfold idset; rw [hnd' x hx]
 have hnp:∀ x,NotPut l (upd L i true) x->NotPut l L x:=fun x hn j r hj=>hn j r (hkey j hj)
 -- the world has turned only in S,whose blocks are among B
 have main:∀ (Sx:Nat->Prop) (B':Nat->Prop),Chg Sx w w'->(∀ k,Sx k->B k)->(∀ k,B k->B' k)->(∀ k,B' k->B k\/(w.heap.size<=k/\k < w'.heap.size)) →
   -- the things that live on,other than those made now
   (∀ x b,Alive l bx (upd L i true) x->x ≠ .inr i->(∀ j r,j=i->(kdAt l j).pt≠some (x,r))->idset l bx a0 vs x b->¬ Sx b) →
   -- what operation i has brought
   (∀ φ,(kdAt l i).vl=some φ->Has B' w' φ v)->(∀ j,kdAt l i=.ref j->v=vs j/\j≠i) →
   (∀ r,(kdAt l i).rk=some r->r.at w0.heap.size B' w' v)->(∀ x r,(kdAt l i).pt=some (x,r)->x ≠ .inr i/\r.at w0.heap.size B' w' (hnd a0 vs x)/\∀ b,r.set (hnd a0 vs x) b->idset l bx a0 vs x b) →
   (∀ r,(kdAt l i).rk=some r->∀ b,r.set v b->B' b/\∀ x,Alive l bx (upd L i true) x->x ≠ .inr i->¬ idset l bx a0 vs x b) →
   ∃ B',Held ops l bx B0 a0 W w0 (upd L i true) (upd vs i v) B' w':=by
  intro Sx B' hc hSB hBB hB' hfar hv hr hm hp hs
  have ev:Ev B w w':=⟨hc.os,hc.tape,hc.output,hc.size,fun k hk hn=>hc.block k hk (fun hs=>hn (hSB k hs))⟩
  have hsub:∀ k,k < w.heap.size->B' k->B k:=fun k hk hb=>by rcases hB' k hb with h | h; exact h; omega
  have lo:=H.ent.size
  refine ⟨B',H.ent.trans (yr7 hc (fun k hk=>(H.bnd k (hSB k hk)).1) lo),?_,fun k hk=>?_,fun k hk=>?_,hdeps,?_,?_,?_,?_,?_,?_,?_⟩
  ·refine ⟨hc.os.trans H.ev.os,hc.tape.trans H.ev.tape,hc.output.trans H.ev.output,zhb H.ev.size hc.size,fun k hk hn=>?_⟩
   have hkw:k < w.heap.size:=zhe hk H.ev.size
   exact (hc.block k hkw (fun hs=>hn ((H.old k hk).1 (hSB k hs)))).trans (H.ev.block k hk hn)
  ·rcases hB' k hk with h1 | h1
   ·exact ⟨(H.bnd k h1).1,zhe (H.bnd k h1).2 hc.size⟩
   ·exact ⟨zhb lo h1.1,h1.2⟩
  ·have:=H.ev.size
   exact ⟨fun h=>(H.old k hk).1 (hsub k (by omega) h),fun h=>hBB k ((H.old k hk).2 h)⟩
  ·intro j φ hj hk
   by_cases e:j=i
   ·subst e; rw [yhq]; exact hv φ hk
   ·rw [yfl _ _ e]; exact (H.val j φ (hupd j hj e) hk).go ev hsub
  ·intro j j' hj hk
   by_cases e:j=i
   ·subst e
    obtain ⟨h1,h2⟩:=hr j' hk
    rw [yhq,yfl _ _ h2]
    exact h1
   ·have hjL:=hupd j hj e
    have hj':j'≠i:=hne j' ((H.deps j hjL).2 j' (S.refs j j' (H.deps j hjL).1 hk).1)
    rw [yfl _ _ e,yfl _ _ hj']
    exact H.rf j j' hjL hk
  ·intro x r hx hin hn
   by_cases e:x=.inr i
   ·subst e
    rw [hself]
    exact hm r hin
   ·have hx':=hal x hx e
    rw [hnd' x e]
    have hat:=H.live x r hx' hin (hnp x hn)
    refine Rk.go hat (fun b hb=>?_) ev hsub hBB
    exact hc.block b (Rk.inB hat hb).2 (hfar x b hx e (fun j r' hj hk=>by subst hj; exact hn j r' (yhq _ _ _) hk) ⟨r,hin,hb⟩)
  ·intro j x r hj hk hx hlast
   by_cases e:j=i
   ·subst e
    obtain ⟨h1,h2,_⟩:=hp x r hk
    rw [hnd' x h1]
    exact h2
   ·have hjL:=hupd j hj e
    have hxi:x ≠ .inr i:=fun ex=>by
     subst ex
     exact hne i ((H.deps j hjL).2 i (S.tnew j i (H.deps j hjL).1 (Kd.pt_turns hk)).1) rfl
    have hx':=hal x hx hxi
    rw [hnd' x hxi]
    have hat:=H.put j x r hjL hk hx' (fun k hk' ht=>hlast k (hkey k hk') ht)
    refine Rk.go hat (fun b hb=>?_) ev hsub hBB
    refine hc.block b (Rk.inB hat hb).2 (hfar x b hx hxi (fun j' r' hj' hk'=>?_) (H.pset j x r hjL hk b hb))
    subst hj'
    rcases S.ord j' j x hi (H.deps j hjL).1 (Kd.pt_turns hk') (Kd.pt_turns hk) with h | ⟨_,_,h | h⟩
    ·exact e h
    ·have:=(H.deps j hjL).2 j' h
     rw [hL] at this
     cases this
    ·have h1:=S.low j' j hi h
     have h2:=hlast j' (yhq _ _ _) (Kd.pt_turns hk')
     omega
  ·intro x b hx hb
   by_cases e:x=.inr i
   ·subst e
    obtain ⟨r,hr1,hr2⟩:=hb
    rw [hself] at hr2
    exact (hs r hr1 b hr2).1
   ·exact hBB b (H.inB x b (hal x hx e) ((hids x b e).1 hb))
  ·intro x y b hx hy hbx hby
   by_cases e:x=.inr i <;> by_cases e':y=.inr i
   ·rw [e,e']
   ·subst e
    obtain ⟨r,hr1,hr2⟩:=hbx
    rw [hself] at hr2
    exact absurd ((hids y b e').1 hby) ((hs r hr1 b hr2).2 y hy e')
   ·subst e'
    obtain ⟨r,hr1,hr2⟩:=hby
    rw [hself] at hr2
    exact absurd ((hids x b e).1 hbx) ((hs r hr1 b hr2).2 x hx e)
   ·exact H.sep x y b (hal x hx e) (hal y hy e') ((hids x b e).1 hbx) ((hids y b e').1 hby)
  ·intro j x r hj hk b hb
   by_cases e:j=i
   ·subst e
    obtain ⟨h1,_,h3⟩:=hp x r hk
    rw [hnd' x h1] at hb
    exact (hids x b h1).2 (h3 b hb)
   ·have hjL:=hupd j hj e
    have hxi:x ≠ .inr i:=fun ex=>by
     subst ex
     exact hne i ((H.deps j hjL).2 i (S.tnew j i (H.deps j hjL).1 (Kd.pt_turns hk)).1) rfl
    rw [hnd' x hxi] at hb
    exact (hids x b hxi).2 (H.pset j x r hjL hk b hb)
 have hblk:∀ x b,Alive l bx L x->idset l bx a0 vs x b->b < w.heap.size:=fun x b hx hb=>(H.bnd b (H.inB x b hx hb)).2
 cases hk:kdAt l i with
 | val φ =>
  rw [hk] at h main
  obtain ⟨hb,hφ⟩:=h
  exact main (fun _=>False) B (Chg.of_below hb) (fun _ h=>h.elim) (fun _ h=>h) (fun _ h=>Or.inl h) (fun _ _ _ _ _ _ h=>h) (fun ψ e=>by cases e; exact hφ) (fun j e=>by cases e) (fun r e=>by cases e) (fun x r e=>by cases e) (fun r e=>by cases e)
 | new r =>
  rw [hk] at h main
  obtain ⟨hb,hf,hr⟩:=h
  refine main (fun _=>False) (fun k=>B k\/r.set v k) (Chg.of_below hb) (fun _ h=>h.elim) (fun _ h=>Or.inl h) (fun k h=>?_) (fun _ _ _ _ _ _ h=>h) (fun ψ e=>by cases e) (fun j e=>by cases e) (fun r' e=>by cases e; exact hr) (fun x r e=>by cases e) ?_
  ·rcases h with h | h
   ·exact Or.inl h
   ·exact Or.inr (hf k h)
  ·intro r' e b hbv
   cases e
   refine ⟨Or.inr hbv,fun x hx hxi hbx=>?_⟩
   have h1:=hblk x b (hal x hx hxi) hbx
   have h2:=(hf b hbv).1
   omega
 | put x r =>
  rw [hk] at h main
  obtain ⟨hc,hr,hps⟩:=h
  have hxi:x ≠ .inr i:=fun e=>by
   subst e
   exact hne i (hd i (S.tnew i i hi (by rw [hk]; rfl)).1) rfl
  have hxL:Alive l bx L x:=by
   refine ⟨fun j r' t hj hkj ex=>?_,?_⟩
   ·rcases S.ord i j (.inl t) hi (H.deps j hj).1 (by rw [hk,ex]; rfl) (by rw [hkj]; rfl) with h | ⟨_,h,_⟩
    ·exact hne j hj h
    ·rw [hkj] at h; cases h
   ·cases x with
    | inl t=>exact S.tslot i t hi (by rw [hk]; rfl)
    | inr j=>obtain ⟨h1,h2⟩:=S.tnew i j hi (by rw [hk]; rfl); exact ⟨hd j h1,h2⟩
  refine main (idset l bx a0 vs x) B hc (fun k hs=>H.inB x k hxL hs) (fun _ h=>h) (fun _ h=>Or.inl h) (fun y b hy hyi hny hb hs=>?_) (fun ψ e=>by cases e) (fun j e=>by cases e) (fun r' e=>by cases e) (fun x' r' e=>by cases e; exact ⟨hxi,hr,hps⟩) (fun r' e=>by cases e)
  have:=H.sep x y b hxL (hal y hy hyi) hs hb
  subst this
  exact hny i r rfl (by rw [hk]; rfl)
 | turn x r φ =>
  rw [hk] at h main
  obtain ⟨⟨hc,hr,hps⟩,hφ⟩:=h
  have hxi:x ≠ .inr i:=fun e=>by
   subst e
   exact hne i (hd i (S.tnew i i hi (by rw [hk]; rfl)).1) rfl
  have hxL:Alive l bx L x:=by
   refine ⟨fun j r' t hj hkj ex=>?_,?_⟩
   ·rcases S.ord i j (.inl t) hi (H.deps j hj).1 (by rw [hk,ex]; rfl) (by rw [hkj]; rfl) with h | ⟨_,h,_⟩
    ·exact hne j hj h
    ·rw [hkj] at h; cases h
   ·cases x with
    | inl t=>exact S.tslot i t hi (by rw [hk]; rfl)
    | inr j=>obtain ⟨h1,h2⟩:=S.tnew i j hi (by rw [hk]; rfl); exact ⟨hd j h1,h2⟩
  refine main (idset l bx a0 vs x) B hc (fun k hs=>H.inB x k hxL hs) (fun _ h=>h) (fun _ h=>Or.inl h) (fun y b hy hyi hny hb hs=>?_) (fun ψ e=>by cases e; exact hφ) (fun j e=>by cases e) (fun r' e=>by cases e) (fun x' r' e=>by cases e; exact ⟨hxi,hr,hps⟩) (fun r' e=>by cases e)
  have:=H.sep x y b hxL (hal y hy hyi) hs hb
  subst this
  exact hny i r rfl (by rw [hk]; rfl)
 | mov t r =>
  rw [hk] at h main
  obtain ⟨hc,hf,hr⟩:=h
  have htL:Alive l bx L (.inl t):=by
   refine ⟨fun j r' t' hj hkj ex=>?_,S.tslot i t hi (by rw [hk]; rfl)⟩
   cases ex
   rcases S.ord i j (.inl t) hi (H.deps j hj).1 (by rw [hk]; rfl) (by rw [hkj]; rfl) with h | ⟨_,h,_⟩
   ·exact hne j hj h
   ·rw [hkj] at h; cases h
  have hdead:∀ y,Alive l bx (upd L i true) y->y ≠ .inl t:=fun y hy=>hy.1 i r t (yhq _ _ _) hk
  refine main (idset l bx a0 vs (.inl t)) (fun k=>B k\/r.set v k) hc (fun k hs=>H.inB (.inl t) k htL hs) (fun _ h=>Or.inl h) (fun k h=>?_) (fun y b hy hyi _ hb hs=>?_) (fun ψ e=>by cases e) (fun j e=>by cases e) (fun r' e=>by cases e; exact hr) (fun x r e=>by cases e) ?_
  ·rcases h with h | h
   ·exact Or.inl h
   ·rcases hf k h with h1 | h1
    ·exact Or.inl (H.inB (.inl t) k htL h1)
    ·exact Or.inr h1
  ·exact hdead y hy (H.sep (.inl t) y b htL (hal y hy hyi) hs hb).symm
  ·intro r' e b hbv
   cases e
   refine ⟨Or.inr hbv,fun y hy hyi hby=>?_⟩
   rcases hf b hbv with h1 | h1
   ·exact hdead y hy (H.sep (.inl t) y b htL (hal y hy hyi) h1 hby).symm
   ·have h2:=hblk y b (hal y hy hyi) hby
    omega
 | ref j =>
  rw [hk] at h main
  obtain ⟨rfl,hv⟩:=h
  exact main (fun _=>False) B (Chg.of_below (Below.refl _ _)) (fun _ h=>h.elim) (fun _ h=>h) (fun _ h=>Or.inl h) (fun _ _ _ _ _ _ h=>h) (fun ψ e=>by cases e) (fun j' e=>by cases e; exact ⟨hv,hne j (hd j (S.refs i j hi hk).1)⟩) (fun r e=>by cases e) (fun x r e=>by cases e) (fun r e=>by cases e)
 | off =>
  rw [hk] at h main
  obtain rfl:w'=w:=h
  exact main (fun _=>False) B (Chg.of_below (Below.refl _ _)) (fun _ h=>h.elim) (fun _ h=>h) (fun _ h=>Or.inl h) (fun _ _ _ _ _ _ h=>h) (fun ψ e=>by cases e) (fun j' e=>by cases e) (fun r e=>by cases e) (fun x r e=>by cases e) (fun r e=>by cases e)
end
def Rk.plain:Rk->Bool
 | .own _ _ _=>false
 | _=>true
theorem Rk.set_plain {r:Rk}(h:r.plain=true)(v:Value)(b:Nat):r.set v b ↔ vblock v=some b:=by cases r <;> first | (cases h; done) | exact Iff.rfl
theorem yew {l:List Kd}{bx:Bxs}{a0:Act}{vs:Nat->Value}{x:Id}{r:Rk}(hi:Init l bx x r)(hp:r.plain=true){b:Nat}(h:vblock (hnd a0 vs x)=some b):idset l bx a0 vs x b:=⟨r,hi,(Rk.set_plain hp _ _).2 h⟩
theorem ywq {l:List Kd}{bx:Bxs}{lo:Nat}{a0:Act}{vs:Nat->Value}{B:Nat->Prop}{w w':World}{v:Value}{x:Id}{r':Rk}(hid:∀ b,vblock (hnd a0 vs x)=some b->idset l bx a0 vs x b)(hp':r'.plain=true)(hc:Chg (fun k=>vblock (hnd a0 vs x)=some k) w w')(hr:r'.at lo B w' (hnd a0 vs x)):Kd.out l bx lo a0 vs B w v w' (.put x r'):=
 ⟨⟨hc.os,hc.tape,hc.output,hc.size,fun k hk hn=>hc.block k hk (fun h=>hn (hid k h))⟩,hr,fun b hb=>hid b ((Rk.set_plain hp' _ _).1 hb)⟩
theorem zak {l:List Kd}{bx:Bxs}{lo:Nat}{a0:Act}{vs:Nat->Value}{B:Nat->Prop}{w w':World}{v:Value}{x:Id}{r r':Rk}(hi:Init l bx x r)(hp:r.plain=true)(hp':r'.plain=true)(hc:Chg (fun k=>vblock (hnd a0 vs x)=some k) w w')(hr:r'.at lo B w' (hnd a0 vs x)):Kd.out l bx lo a0 vs B w v w' (.put x r'):=
 ⟨⟨hc.os,hc.tape,hc.output,hc.size,fun k hk hn=>hc.block k hk (fun h=>hn (yew hi hp h))⟩,hr,fun b hb=>yew hi hp ((Rk.set_plain hp' _ _).1 hb)⟩
def unturned (ops:Array Oper)(l:List Kd)(i:Nat)(x:Id):Bool:=(List.range ops.size).all fun k=>decide ((kdAt l k).turns≠some x) || k == i || (depsOf ops k).contains i
def slotFree (ops:Array Oper)(i:Nat)(t:Tmp):Bool:=(List.range ops.size).all fun k=>dstOf ops k != some t || k == i || (depsOf ops k).contains i
def lastPut (ops:Array Oper)(l:List Kd)(i j:Nat)(x:Id):Bool:=(List.range ops.size).all fun k=>decide ((kdAt l k).turns≠some x) || k == i || (depsOf ops k).contains i || decide (k<=j)
structure Ctx (ops:Array Oper) (l:List Kd) (bx:Bxs) (sl:List (Tmp × Pr)) (a0:Act) (n:Nat) (w0:World) (i:Nat) (vs:Nat->Value) (B:Nat->Prop) (a:Act) (w:World):Prop where
 lo:w0.heap.size<=w.heap.size
 bnd:∀ k,B k->w0.heap.size<=k/\k < w.heap.size
 val:∀ j d φ,j ∈ depsOf ops i->(kdAt l j).vl=some φ->dstOf ops j=some d->Has B w φ (a.eval (.tmp d))
 news:∀ j d r,j ∈ depsOf ops i->(kdAt l j).rk=some r->dstOf ops j=some d->a.eval (.tmp d)=vs j/\(unturned ops l i (.inr j)=true->r.at w0.heap.size B w (vs j))
 slt:∀ t φ,(t,φ) ∈ sl->slotFree ops i t=true->Has B w φ (a.eval (.tmp t))
 slot:∀ t,slotFree ops i t=true->a.eval (.tmp t)=a0.eval (.tmp t)
 box:∀ t r,(t,r) ∈ bx->unturned ops l i (.inl t)=true->r.at w0.heap.size B w (a0.eval (.tmp t))
 puts:∀ j x r,j ∈ depsOf ops i->(kdAt l j).pt=some (x,r)->lastPut ops l i j x=true->r.at w0.heap.size B w (hnd a0 vs x)
 pset:∀ j x r,j ∈ depsOf ops i->(kdAt l j).pt=some (x,r)->∀ b,r.set (hnd a0 vs x) b->idset l bx a0 vs x b
def Owed (P:Program)(ops:Array Oper)(Q:Exit->Act->World->Prop)(l:List Kd)(bx:Bxs)(sl:List (Tmp × Pr))(a0:Act)(n:Nat)(w0:World)(i:Nat):Prop:=
 ∀ (vs:Nat->Value) (B:Nat->Prop) (a:Act) (w:World),Ctx ops l bx sl a0 n w0 i vs B a w->∀ o,ops[i]? = some o->wpOp P ops Q i (fun a' w'=>∃ v,a'=a.put o.dst v/\(kdAt l i).out l bx w0.heap.size a0 vs B w v w') a w
def AllOwed (p:Nat->Prop):Nat->Prop
 | 0=>True
 | n+1=>AllOwed p n/\p n
theorem AllOwed.get {p:Nat->Prop}:∀ {n:Nat},AllOwed p n->∀ i,i < n->p i
 | 0,_,i,h=>by omega
 | n+1,h,i,hi=>by
  by_cases e:i=n
  ·subst e; exact h.2
  ·exact AllOwed.get h.1 i (by omega)
section
variable {P:Program} {ops:Array Oper} {Q:Exit->Act->World->Prop} {l:List Kd} {bx:Bxs} {sl:List (Tmp × Pr)} {n:Nat} {B0:Nat->Prop} {a0:Act} {W w0:World}
theorem Held.ctx (S:Shape ops l bx n)(T0:Sta w0 n bx sl B0 a0 W){L:Nat->Bool}{vs:Nat->Value}{B:Nat->Prop}{w:World}(H:Held ops l bx B0 a0 W w0 L vs B w){i:Nat}(hi:i < ops.size)(hL:L i=false)(hd:∀ j ∈ depsOf ops i,L j=true):
  Ctx ops l bx sl a0 n w0 i vs B (fillL ops.toList 0 L vs a0) w:=by
 have hev:∀ j d,L j=true->dstOf ops j=some d->(fillL ops.toList 0 L vs a0).eval (.tmp d)=vs j:=fun j d hj hdj=>by
  cases ho:ops[j]? with
  | none=>simp [dstOf,ho] at hdj
  | some o =>
   have:=yk7 ops.toList 0 j o L vs a0 d S.dsts (by simpa using ho) (by simpa using hj) (by simpa [dstOf,ho] using hdj) (by rw [T0.siz]; exact S.slot j d hdj)
   simpa using this
 have hun:∀ x,unturned ops l i x=true->∀ k,L k=true->(kdAt l k).turns≠some x:=fun x h k hk hkx=>by
  have hks:=(H.deps k hk).1
  have:=zjo.1 h k (zk5.2 hks)
  simp only [zkz,decide_eq_true_eq,beq_iff_eq,zid] at this
  rcases this with (h1 | h1) | h1
  ·exact h1 hkx
  ·subst h1; rw [hL] at hk; cases hk
  ·have:=(H.deps k hk).2 i h1; rw [hL] at this; cases this
 have hslot:∀ t,slotFree ops i t=true->(fillL ops.toList 0 L vs a0).eval (.tmp t)=a0.eval (.tmp t):=fun t hf =>
  yf6 _ _ _ _ _ t (fun j o ho hLj hdo=>by
   rw [zig] at hLj
   have ho':ops[j]? = some o:=by simpa using ho
   have hj:j < ops.size:=(zhf.1 ho').1
   have:=zjo.1 hf j (zk5.2 hj)
   simp only [zkz,bne_iff_ne,ne_eq,beq_iff_eq,zid] at this
   rcases this with (h1 | h1) | h1
   ·exact h1 (by simp [dstOf,ho',hdo])
   ·subst h1; rw [hL] at hLj; cases hLj
   ·have:=(H.deps j hLj).2 i h1; rw [hL] at this; cases this)
 refine ⟨H.ent.size,H.bnd,fun j d φ hj hk hdj=>?_,fun j d r hj hk hdj=>?_,fun t φ ht hf=>?_,hslot,fun t r ht hu=>?_,fun j x r hj hk hlp=>?_,fun j x r hj hk=>H.pset j x r (hd j hj) hk⟩
 ·rw [hev j d (hd j hj) hdj]
  exact H.val j φ (hd j hj) hk
 ·rw [hev j d (hd j hj) hdj]
  refine ⟨rfl,fun hu=>?_⟩
  have hm:(kdAt l j).made=true:=by cases e:kdAt l j <;> rw [e] at hk <;> simp [Kd.rk] at hk <;> rfl
  have hal:Alive l bx L (.inr j):=⟨(fun _ _ _ _ _ e=>nomatch e),hd j hj,hm⟩
  exact H.live (.inr j) r hal hk (fun k r' hk' hkk=>hun _ hu k hk' (Kd.pt_turns hkk))
 ·rw [hslot t hf]
  exact (T0.slt _ ht).go H.ev (fun k hk h=>(H.old k hk).1 h)
 ·have hal:Alive l bx L (.inl t):=⟨fun k r' t' hk' hkk e=>by cases e; exact hun _ hu k hk' (by rw [hkk]; rfl),zko.2 ⟨_,ht,rfl⟩⟩
  exact H.live (.inl t) r hal ht (fun k r' hk' hkk=>hun _ hu k hk' (Kd.pt_turns hkk))
 ·have hjL:=hd j hj
  have hjs:=(H.deps j hjL).1
  have hal:Alive l bx L x:=by
   refine ⟨fun k r' t' hk' hkk ex=>?_,?_⟩
   ·rcases S.ord j k x hjs (H.deps k hk').1 (Kd.pt_turns hk) (by rw [hkk,ex]; rfl) with h | ⟨_,h,_⟩
    ·subst h; exact Kd.pt_mov hk hkk
    ·rw [hkk] at h; cases h
   ·cases x with
    | inl t=>exact S.tslot j t hjs (Kd.pt_turns hk)
    | inr j' =>
     obtain ⟨h1,h2⟩:=S.tnew j j' hjs (Kd.pt_turns hk)
     exact ⟨(H.deps j hjL).2 j' h1,h2⟩
  refine H.put j x r hjL hk hal (fun k hk' ht=>?_)
  have:=zjo.1 hlp k (zk5.2 (H.deps k hk').1)
  simp only [zkz,decide_eq_true_eq,beq_iff_eq,zid] at this
  rcases this with ((h1 | h1) | h1) | h1
  ·exact absurd ht h1
  ·subst h1; rw [hL] at hk'; cases hk'
  ·have:=(H.deps k hk').2 i h1; rw [hL] at this; cases this
  ·exact h1
def pickSl (ops:Array Oper)(l:List Kd)(sl:List (Tmp × Pr)):List (Nat ⊕ Nat)->List (Tmp × Pr)
 | []=>[]
 | .inl i :: r=>(match (kdAt l i).vl,dstOf ops i with | some φ,some d=>[(d,φ)] | _,_=>[]) ++ pickSl ops l sl r
 | .inr k :: r=>(match sl[k]? with | some x=>if ops.toList.all (apartFrom (some x.1)) then [x] else [] | none=>[]) ++ pickSl ops l sl r
theorem yhz:∀ (s:List (Nat ⊕ Nat)) (x:Tmp × Pr),x ∈ pickSl ops l sl s->(∃ i,(kdAt l i).vl=some x.2/\dstOf ops i=some x.1)\/(x ∈ sl/\ops.toList.all (apartFrom (some x.1))=true)
 | [],x,h=>by cases h
 | .inl i :: r,x,h=>by
  simp only [pickSl,zjn] at h
  rcases h with h | h
  ·split at h
   ·rename_i φ d e1 e2
    simp at h
    subst h
    exact Or.inl ⟨i,e1,e2⟩
   ·cases h
  ·exact yhz r x h
 | .inr k :: r,x,h=>by
  simp only [pickSl,zjn] at h
  rcases h with h | h
  ·split at h
   ·rename_i y e
    split at h
    ·rename_i hf
     simp at h
     subst h
     exact Or.inr ⟨zhl e,hf⟩
    ·cases h
   ·cases h
  ·exact yhz r x h
def putsOn (l:List Kd)(x:Id)(i:Nat):Bool:=match (kdAt l i).pt with | some y=>decide (y.1=x) | none=>false
def lastOf (p:Nat->Bool):Nat->Option Nat
 | 0=>none
 | n+1=>if p n then some n else lastOf p n
theorem yg4 {p:Nat->Bool}:∀ {n i:Nat},lastOf p n=some i->p i=true/\i < n/\∀ k,k < n->p k=true->k<=i
 | 0,i,h=>by cases h
 | n+1,i,h=>by
  simp only [lastOf] at h
  split at h
  ·rename_i hp
   cases h
   exact ⟨hp,by omega,fun k hk _=>by omega⟩
  ·rename_i hp
   obtain ⟨h1,h2,h3⟩:=yg4 h
   refine ⟨h1,by omega,fun k hk hpk=>?_⟩
   by_cases e:k=n
   ·subst e; exact absurd hpk hp
   ·exact h3 k (by omega) hpk
theorem yi7 {p:Nat->Bool}:∀ {n:Nat},lastOf p n=none->∀ k,k < n->p k=false
 | 0,_,k,h=>by omega
 | n+1,h,k,hk=>by
  simp only [lastOf] at h
  split at h
  ·cases h
  ·rename_i hp
   by_cases e:k=n
   ·subst e; simpa using hp
   ·exact yi7 h k (by omega)
def putOn (l:List Kd)(x:Id)(r:Rk):Rk:=match lastOf (putsOn l x) l.length with | some i=>(match (kdAt l i).pt with | some y=>y.2 | none=>r) | none=>r
def pickId (ops:Array Oper)(l:List Kd)(bx:Bxs):Nat ⊕ Nat->Option (Tmp × Id × Rk)
 | .inl i=>match kdAt l i,dstOf ops i with
  | .new r,some d=>some (d,.inr i,r)
  | .mov _ r,some d=>some (d,.inr i,r)
  | .ref j,some d=>match (kdAt l j).rk with | some r=>some (d,.inr j,r) | none=>none
  | _,_=>none
 | .inr k=>match bx[k]? with
  | some x=>if ops.toList.all (apartFrom (some x.1)) && l.all (fun q=>match q with | .mov t _=>decide (t≠x.1) | _=>true) then some (x.1,.inl x.1,x.2) else none
  | none=>none
def pickIds (ops:Array Oper)(l:List Kd)(bx:Bxs)(s:List (Nat ⊕ Nat)):List (Tmp × Id × Rk):=s.filterMap (pickId ops l bx)
def pickBx (ops:Array Oper)(l:List Kd)(bx:Bxs)(s:List (Nat ⊕ Nat)):Bxs:=(pickIds ops l bx s).map fun x=>(x.1,putOn l x.2.1 x.2.2)
def pickOk (ops:Array Oper)(l:List Kd)(bx:Bxs)(s:List (Nat ⊕ Nat)):Bool:=decide ((pickIds ops l bx s).map (·.2.1)).Nodup
theorem zf2 {i:Nat}(h:kdAt l i ≠ .off):i < l.length:=by
 apply Classical.byContradiction
 intro hn
 apply h
 simp [kdAt,zim (Nat.le_of_not_lt hn)]
theorem Held.done (S:Shape ops l bx n)(hl:l.length=ops.size)(T0:Sta w0 n bx sl B0 a0 W){vs:Nat->Value}{B:Nat->Prop}{w:World}(H:Held ops l bx B0 a0 W w0 (fun i=>decide (i < ops.size)) vs B w)(s1 s2:List (Nat ⊕ Nat))(hs1:pickOk ops l bx s1=true):
  Sta w0 n (pickBx ops l bx s1) (pickSl ops l sl s2) B (fillL ops.toList 0 (fun i=>decide (i < ops.size)) vs a0) w:=by
 have hall:∀ i,i < ops.size->(fun i=>decide (i < ops.size)) i=true:=fun i hi=>by simp [hi]
 have hlt:∀ i,kdAt l i ≠ .off->i < ops.size:=fun i h=>by rw [← hl]; exact zf2 h
 have hev:∀ j d,j < ops.size->dstOf ops j=some d->(fillL ops.toList 0 (fun i=>decide (i < ops.size)) vs a0).eval (.tmp d)=vs j:=fun j d hj hdj=>by
  cases ho:ops[j]? with
  | none=>simp [dstOf,ho] at hdj
  | some o =>
   have:=yk7 ops.toList 0 j o (fun i=>decide (i < ops.size)) vs a0 d S.dsts (by simpa using ho) (by simpa using hj) (by simpa [dstOf,ho] using hdj) (by rw [T0.siz]; exact S.slot j d hdj)
   simpa using this
 have hput:∀ x r,Alive l bx (fun i=>decide (i < ops.size)) x->Init l bx x r->(putOn l x r).at w0.heap.size B w (hnd a0 vs x):=fun x r hx hin=>by
  unfold putOn
  cases hf:lastOf (putsOn l x) l.length with
  | none =>
   refine H.live x r hx hin (fun i r' hi hk=>?_)
   have hi':i < l.length:=by rw [hl]; simpa using hi
   have:=yi7 hf i hi'
   simp [putsOn,hk] at this
  | some i =>
   obtain ⟨h1,h2,h3⟩:=yg4 hf
   cases hk:(kdAt l i).pt with
   | none=>simp [putsOn,hk] at h1
   | some p =>
    obtain ⟨y,s⟩:=p
    have hyx:y=x:=by simpa [putsOn,hk] using h1
    subst hyx
    simp only [hk]
    refine H.put i y s (hall i (by rw [← hl]; exact h2)) hk hx (fun k hk' ht=>?_)
    have hk2:k < l.length:=by rw [hl]; simpa using hk'
    cases hkk:kdAt l k with
    | put y' s' =>
     rw [hkk] at ht
     simp only [Kd.turns,Option.some.injEq] at ht
     exact h3 k hk2 (by simp [putsOn,hkk,Kd.pt,ht])
    | turn y' s' φ' =>
     rw [hkk] at ht
     simp only [Kd.turns,Option.some.injEq] at ht
     exact h3 k hk2 (by simp [putsOn,hkk,Kd.pt,ht])
    | mov t s' =>
     rw [hkk] at ht
     simp only [Kd.turns,Option.some.injEq] at ht
     exact absurd ht.symm (hx.1 k s' t hk' hkk)
    | _=>rw [hkk] at ht; simp [Kd.turns] at ht
 have hpset:∀ x r b,Init l bx x r->(putOn l x r).set (hnd a0 vs x) b->idset l bx a0 vs x b:=fun x r b hin hb=>by
  unfold putOn at hb
  cases hf:lastOf (putsOn l x) l.length with
  | none=>rw [hf] at hb; exact ⟨r,hin,hb⟩
  | some i =>
   rw [hf] at hb
   obtain ⟨h1,h2,_⟩:=yg4 hf
   cases hk:(kdAt l i).pt with
   | none=>simp [putsOn,hk] at h1
   | some p =>
    obtain ⟨y,s⟩:=p
    have hyx:y=x:=by simpa [putsOn,hk] using h1
    subst hyx
    simp only [hk] at hb
    exact H.pset i y s (hall i (by rw [← hl]; exact h2)) hk b hb
 have hpick:∀ p x,pickId ops l bx p=some x->(fillL ops.toList 0 (fun i=>decide (i < ops.size)) vs a0).eval (.tmp x.1)=hnd a0 vs x.2.1/\Alive l bx (fun i=>decide (i < ops.size)) x.2.1/\Init l bx x.2.1 x.2.2:=fun p x hp=>by
  cases p with
  | inl i =>
   simp only [pickId] at hp
   split at hp
   ·rename_i r d e1 e2
    cases hp
    have hi:=hlt i (by rw [e1]; intro e; cases e)
    exact ⟨hev i d hi e2,⟨(fun _ _ _ _ _ e=>nomatch e),hall i hi,by rw [e1]; rfl⟩,by show (kdAt l i).rk=_; rw [e1]; rfl⟩
   ·rename_i t r d e1 e2
    cases hp
    have hi:=hlt i (by rw [e1]; intro e; cases e)
    exact ⟨hev i d hi e2,⟨(fun _ _ _ _ _ e=>nomatch e),hall i hi,by rw [e1]; rfl⟩,by show (kdAt l i).rk=_; rw [e1]; rfl⟩
   ·rename_i j d e1 e2
    split at hp
    ·rename_i r er
     cases hp
     have hi:=hlt i (by rw [e1]; intro e; cases e)
     have hj:j < ops.size:=Nat.lt_trans (S.low i j hi (S.refs i j hi e1).1) hi
     exact ⟨by rw [hev i d hi e2]; exact H.rf i j (hall i hi) e1,⟨(fun _ _ _ _ _ e=>nomatch e),hall j hj,(S.refs i j hi e1).2⟩,er⟩
    ·cases hp
   ·cases hp
  | inr k =>
   simp only [pickId] at hp
   split at hp
   ·rename_i y ey
    split at hp
    ·rename_i hc
     simp only [zh0] at hc
     cases hp
     have hm:=zhl ey
     refine ⟨yft _ _ _ _ _ _ hc.1,⟨fun i r t hi hk e=>?_,zko.2 ⟨y,hm,rfl⟩⟩,hm⟩
     cases e
     have hi':i < l.length:=by rw [hl]; simpa using hi
     have:=zjo.1 hc.2 (l.getD i .off) (by simp [hi'])
     rw [show l.getD i .off=_ from hk] at this
     simp at this
    ·cases hp
   ·cases hp
 have hmem:∀ x,x ∈ pickBx ops l bx s1->∃ y ∈ pickIds ops l bx s1,x=(y.1,putOn l y.2.1 y.2.2)/\∃ p,pickId ops l bx p=some y:=fun x hx=>by
  obtain ⟨y,hy,rfl⟩:=zko.1 hx
  obtain ⟨p,_,hp⟩:=List.mem_filterMap.1 hy
  exact ⟨y,hy,rfl,p,hp⟩
 have hsz:=yj8 ops.toList 0 (fun i=>decide (i < ops.size)) vs a0
 refine ⟨H.ent,H.bnd,by rw [hsz.1]; exact T0.siz,by rw [hsz.2]; exact T0.dfr,fun x hx=>?_,fun x hx y hy b hbx hby=>?_,fun x hx=>?_⟩
 ·obtain ⟨y,_,rfl,p,hp⟩:=hmem x hx
  obtain ⟨h1,h2,h3⟩:=hpick p y hp
  rw [h1]
  exact hput _ _ h2 h3
 ·obtain ⟨x',hx',rfl,p,hp⟩:=hmem x hx
  obtain ⟨y',hy',rfl,q,hq⟩:=hmem y hy
  obtain ⟨h1,h2,h3⟩:=hpick p x' hp
  obtain ⟨g1,g2,g3⟩:=hpick q y' hq
  rw [h1] at hbx
  rw [g1] at hby
  have e:=H.sep _ _ b h2 g2 (hpset _ _ b h3 hbx) (hpset _ _ b g3 hby)
  have nd:=of_decide_eq_true hs1
  show x'.1=y'.1
  have inj:∀ (l:List (Tmp × Id × Rk)),(l.map (·.2.1)).Nodup->∀ a ∈ l,∀ b ∈ l,a.2.1=b.2.1->a=b:=by
   intro l
   induction l with
   | nil=>intro _ a ha; cases ha
   | cons c r ih =>
    intro hn a ha b hb hab
    simp only [zje,List.nodup_cons] at hn
    rcases zj3.1 ha with e1 | h1 <;> rcases zj3.1 hb with e2 | h2
    ·rw [e1,e2]
    ·rw [e1] at hab; exact absurd (zko.2 ⟨b,h2,hab.symm⟩) hn.1
    ·rw [e2] at hab; exact absurd (zko.2 ⟨a,h1,hab⟩) hn.1
    ·exact ih hn.2 a h1 b h2 hab
  rw [inj _ nd x' hx' y' hy' e]
 ·rcases yhz s2 x hx with ⟨i,hk,hd⟩ | ⟨h,hf⟩
  ·have hi:=hlt i (Kd.vl_off hk)
   rw [hev i x.1 hi hd]
   exact H.val i _ (hall i hi) hk
  ·rw [yft _ _ _ _ _ x.1 hf]
   exact (T0.slt _ h).go H.ev (fun k hk h=>(H.old k hk).1 h)
theorem Held.start (S:Shape ops l bx n)(T0:Sta w0 n bx sl B0 a0 W){w:World}(hw:Below W.heap.size W w)(hs:w.heap.size=W.heap.size):Held ops l bx B0 a0 W w0 (fun _=>false) (fun _=>undef) B0 w:=by
 have ev:Ev B0 W w:=Ev.of_below hw
 have hal:∀ x,Alive l bx (fun _=>false) x->∃ t r,x=.inl t/\(t,r) ∈ bx:=fun x hx=>by
  cases x with
  | inl t =>
   obtain ⟨y,hy,e⟩:=zko.1 hx.2
   exact ⟨t,y.2,rfl,by rw [← e]; exact hy⟩
  | inr i=>cases hx.2.1
 refine ⟨T0.ent.trans (hw.mono T0.ent.size),ev,fun k hk=>⟨(T0.bnd k hk).1,by rw [hs]; exact (T0.bnd k hk).2⟩,fun _ _=>Iff.rfl,(fun _ h=>nomatch h),(fun _ _ h=>nomatch h),(fun _ _ h=>nomatch h),fun x r hx hin _=>?_,(fun _ _ _ h=>nomatch h),fun x b hx hb=>?_,fun x y b hx hy hbx hby=>?_,(fun _ _ _ h=>nomatch h)⟩
 ·obtain ⟨t,r',rfl,_⟩:=hal x hx
  have hat:=T0.box _ hin
  exact Rk.go hat (fun b hb=>hw.block _ (Rk.inB hat hb).2) ev (fun _ _ x=>x) (fun _ x=>x)
 ·obtain ⟨t,r',rfl,_⟩:=hal x hx
  obtain ⟨r,h,hb⟩:=hb
  exact (Rk.inB (T0.box _ h) hb).1
 ·obtain ⟨t,r,rfl,_⟩:=hal x hx
  obtain ⟨t',r',rfl,_⟩:=hal y hy
  obtain ⟨r1,h,hbx⟩:=hbx
  obtain ⟨r2,h',hby⟩:=hby
  have:=T0.sep _ h _ h' b hbx hby
  simp at this
  rw [this]
def flags (listed:Array Bool):Nat->Bool:=fun i=>listed.getD i false
def leftOver (listed:Array Bool):Nat:=listed.toList.countP (fun b=>!b)
theorem yj6:∀ (l:List Bool) (i:Nat),l[i]? = some false->(l.set i true).countP (fun b=>!b)+1=l.countP (fun b=>!b)
 | [],_,h=>by cases h
 | b :: r,0,h=>by simp at h; subst h; simp
 | b :: r,i+1,h=>by
  simp only [zjd] at h
  have:=yj6 r i h
  simp only [List.set_cons_succ,List.countP_cons]
  omega
theorem ymu {listed:Array Bool}{i:Nat}(h:listed.getD i true=false):leftOver (listed.setIfInBounds i true)+1=leftOver listed:=by
 have hl:listed.toList[i]? = some false:=by
  rcases zi0 i listed.size with h' | h'
  ·simp [h'] at h
   simp [h',h]
  ·simp [zi6 h'] at h
 have:=yj6 listed.toList i hl
 simp only [leftOver,Array.toList_setIfInBounds]
 exact this
theorem yso {listed:Array Bool}{i:Nat}(h:i < listed.size):flags (listed.setIfInBounds i true)=upd (flags listed) i true:=by
 funext j
 by_cases e:j=i
 ·subst e; simp [flags,yhq,h]
 ·rw [yfl _ _ e]; simp only [flags]; exact getD_set_ne false (Ne.symm e)
theorem Held.run (S:Shape ops l bx n)(T0:Sta w0 n bx sl B0 a0 W)(hop:AllOwed (Owed P ops Q l bx sl a0 n w0) ops.size){L:Nat->Bool}{vs:Nat->Value}{B:Nat->Prop}{w:World}(H:Held ops l bx B0 a0 W w0 L vs B w){i:Nat}(hi:i < ops.size)(hL:L i=false)(hd:∀ j ∈ depsOf ops i,L j=true)
  {K:Act->World->Prop} (hK:∀ v B' w',Held ops l bx B0 a0 W w0 (upd L i true) (upd vs i v) B' w'->K (fillL ops.toList 0 (upd L i true) (upd vs i v) a0) w'):wpOp P ops Q i K (fillL ops.toList 0 L vs a0) w:=by
 have ho:ops[i]? = some ops[i]:=by simp [hi]
 refine wpOp_mono ?_ (hop.get i hi vs B _ w (H.ctx S T0 hi hL hd) _ ho)
 rintro a' w' ⟨v,rfl,hout⟩
 obtain ⟨B',H'⟩:=H.step S hi hL hd hout
 have hst:=yj9 ops.toList 0 i ops[i] L vs a0 v S.dsts (by simp [hi]) (by simpa using hL)
 rw [zig] at hst
 rw [hst]
 exact hK v B' w' H'
theorem yky (S:Shape ops l bx n)(T0:Sta w0 n bx sl B0 a0 W)(hop:AllOwed (Owed P ops Q l bx sl a0 n w0) ops.size)
  (fin:∀ vs B w,Held ops l bx B0 a0 W w0 (fun i=>decide (i < ops.size)) vs B w->Q .normal (fillL ops.toList 0 (fun i=>decide (i < ops.size)) vs a0) w):
  ∀ (fuel:Nat) (listed:Array Bool) (vs:Nat->Value) (B:Nat->Prop) (w:World),listed.size=ops.size->leftOver listed<=fuel →
   Held ops l bx B0 a0 W w0 (flags listed) vs B w->wpAny P .any ops Q fuel listed (fillL ops.toList 0 (flags listed) vs a0) w:=by
 have hend:∀ (listed:Array Bool) vs B w,listed.size=ops.size->leftOver listed=0->Held ops l bx B0 a0 W w0 (flags listed) vs B w->Region.ready .any ops listed=[]/\Q .normal (fillL ops.toList 0 (flags listed) vs a0) w:=by
  intro listed vs B w hs hl H
  have hall:∀ i,i < ops.size->listed.getD i false=true:=by
   intro i hi
   have hi':i < listed.size:=by omega
   have:∀ b ∈ listed.toList,b=true:=by
    intro b hb
    have h0:=List.countP_eq_zero.1 hl b hb
    simpa using h0
   have:=this listed[i] (by simp)
   simp [hi',this]
  have hfl:flags listed=fun i=>decide (i < ops.size):=by
   funext i
   by_cases hi:i < ops.size
   ·simp only [flags,hi,decide_true]; exact hall i hi
   ·simp only [flags,hi,decide_false]
    have:listed[i]? = none:=zi6 (by omega)
    simp [this]
  constructor
  ·apply List.eq_nil_iff_forall_not_mem.2
   intro i hi
   obtain ⟨h0,o,ho,_⟩:=mem_ready.1 hi
   have hlt:i < ops.size:=(zhf.1 ho).1
   have:=hall i hlt
   have hlt':i < listed.size:=by omega
   simp [hlt'] at h0 this
   rw [h0] at this
   cases this
  ·rw [hfl] at H ⊢
   exact fin vs B w H
 intro fuel
 induction fuel with
 | zero =>
  intro listed vs B w hs hl H
  exact hend listed vs B w hs (by omega) H
 | succ fuel ih =>
  intro listed vs B w hs hl H
  refine ⟨fun hr=>?_,fun i hi=>?_⟩
  ·have hall:∀ i,i < ops.size->flags listed i=true:=by
    intro i
    induction i using Nat.strongRecOn with
    | ind i IH =>
     intro hi
     apply Classical.byContradiction
     intro hn
     have hi':i < listed.size:=by omega
     have hm:i ∈ Region.ready .any ops listed:=by
      refine mem_ready.2 ⟨?_,ops[i],by simp [hi],fun e he hb=>?_⟩
      ·simp [flags,hi'] at hn ⊢
       exact hn
      ·have hj:e.on ∈ depsOf ops i:=by
        simp only [depsOf,zh4 hi,List.mem_filterMap]
        exact ⟨e,by simpa using he,by simp [hb]⟩
       have hlt:=S.low i e.on hi hj
       exact IH e.on hlt (by omega)
     rw [hr] at hm
     cases hm
   have h0:leftOver listed=0:=by
    refine List.countP_eq_zero.2 (fun b hb=>?_)
    obtain ⟨i,hi,rfl⟩:=List.getElem_of_mem hb
    have hi':i < listed.size:=by simpa using hi
    have:=hall i (by omega)
    simp [flags,hi'] at this
    simp [this]
   exact (hend listed vs B w hs h0 H).2
  ·obtain ⟨h0,o,ho,hall⟩:=mem_ready.1 hi
   have hlt:i < ops.size:=(zhf.1 ho).1
   have hlt':i < listed.size:=by omega
   have hLi:flags listed i=false:=by
    simp [flags,hlt'] at h0 ⊢
    exact h0
   have hdeps:∀ j ∈ depsOf ops i,flags listed j=true:=by
    intro j hj
    simp only [depsOf,ho,List.mem_filterMap] at hj
    obtain ⟨e,he,hee⟩:=hj
    split at hee
    ·rename_i hb
     cases hee
     exact hall e (by simpa using he) hb
    ·cases hee
   refine H.run S T0 hop hlt hLi hdeps (fun v B' w' H'=>?_)
   rw [← yso hlt'] at H' ⊢
   exact ih _ _ B' w' (by simp [hs]) (by have:=ymu h0; omega) H'
theorem yh4 (S:Shape ops l bx n)(T0:Sta w0 n bx sl B0 a0 W)(hop:AllOwed (Owed P ops Q l bx sl a0 n w0) ops.size)
  (fin:∀ vs B w,Held ops l bx B0 a0 W w0 (fun i=>decide (i < ops.size)) vs B w->Q .normal (fillL ops.toList 0 (fun i=>decide (i < ops.size)) vs a0) w):
  ∀ (m k:Nat) (vs:Nat->Value) (B:Nat->Prop) (w:World),k+m=ops.size->Held ops l bx B0 a0 W w0 (fun i=>decide (i < k)) vs B w->wpOps P ops Q (List.range' k m) (fillL ops.toList 0 (fun i=>decide (i < k)) vs a0) w:=by
 intro m
 induction m with
 | zero =>
  intro k vs B w hk H
  obtain rfl:k=ops.size:=by omega
  simp only [List.range'_zero,wpOps]
  exact fin vs B w H
 | succ m ih =>
  intro k vs B w hk H
  rw [List.range'_succ,wpOps_cons]
  have hi:k < ops.size:=by omega
  refine H.run S T0 hop hi (by simp) (fun j hj=>by simpa using S.low k j hi hj) (fun v B' w' H'=>?_)
  have e:upd (fun i=>decide (i < k)) k true=fun i=>decide (i < k+1):=by
   funext j
   by_cases e:j=k
   ·subst e; rw [yhq]; simp
   ·rw [yfl _ _ e]
    simp only [decide_eq_decide]
    omega
  rw [e] at H' ⊢
  exact ih (k+1) _ B' w' (by omega) H'
theorem yf7 (l':List Oper)(k:Nat)(vs:Nat->Value):fillL l' k (fun _=>false) vs a0=a0:=by
 induction l' generalizing k with
 | nil=>rfl
 | cons o r ih=>simp only [fillL]; exact ih (k+1)
theorem yvg {id:Nat}{draw:Bool}(l:List Kd)(s1 s2:List (Nat ⊕ Nat))(hm:P.follows .mixedOrders=true)(T0:Sta w0 n bx sl B0 a0 W)(hl:l.length=ops.size)(hc:(shapeOk ops l (bx.map (·.1)) n && pickOk ops l bx s1)=true)
  (hop:AllOwed (Owed P ops Q l bx sl a0 n w0) ops.size)
  (fin:∀ B a w,Sta w0 n (pickBx ops l bx s1) (pickSl ops l sl s2) B a w->Q .normal a w):(Code.region id ops draw).wp P Q a0 W:=by
 simp only [zh0] at hc
 have S:=yl4 hc.1
 have hs1:=hc.2
 have fin':∀ vs B w,Held ops l bx B0 a0 W w0 (fun i=>decide (i < ops.size)) vs B w->Q .normal (fillL ops.toList 0 (fun i=>decide (i < ops.size)) vs a0) w:=fun vs B w H=>fin _ _ _ (H.done S hl T0 s1 s2 hs1)
 cases draw with
 | false =>
  refine wp_region ?_
  have H:=Held.start (ops:=ops) (l:=l) S T0 (Below.refl _ W) rfl
  have h0:(fun i=>decide (i < 0))=fun _:Nat=>false:=by funext i; simp
  have:=yh4 S T0 hop fin' ops.size 0 (fun _=>undef) B0 W (by simp) (by rw [h0]; exact H)
  rw [h0,yf7] at this
  rw [zjh]
  exact this
 | true =>
  refine wp_region_any hm ?_
  have hf:flags (Array.replicate ops.size false)=fun _=>false:=by
   funext i
   by_cases h:i < ops.size <;> simp [flags,h]
  have H:=Held.start (ops:=ops) (l:=l) S T0 (w:={ W with drawn:=W.drawn+1 }) ⟨rfl,rfl,rfl,zha _,fun _ _=>rfl⟩ rfl
  have:=yky S T0 hop fin' ops.size (Array.replicate ops.size false) (fun _=>undef) B0 { W with drawn:=W.drawn+1 } (by simp) (by simp only [leftOver]; exact zhb List.countP_le_length (by simp)) (by rw [hf]; exact H)
  rw [hf,yf7] at this
  exact this
end
def Is (u:Value):Pr:=fun v _=>v=u
structure Fresh (ψ:Nat->Pr):Prop where
 mono:∀ lo lo' v w,lo'<=lo->ψ lo v w->ψ lo' v w
 ev:∀ lo v w w' (B:Nat->Prop),(∀ k,B k->k < lo)->ψ lo v w->Ev B w w'->ψ lo v w'
def Gives (ψ:Nat->Pr)(w:World)(e:Ending)(w':World):Prop:=∃ v,e=.returned v/\Below w.heap.size w w'/\ψ w.heap.size v w'
def IS (u:Value):Nat->Pr:=fun _=>Is u
theorem yab (u:Value):Fresh (IS u):=⟨fun _ _ _ _ _ h=>h,fun _ _ _ _ _ _ h _=>h⟩
def TWO (φ ψ:Nat->Pr):Nat->Pr:=fun lo v w=>∃ x y,v=.tuple #[x,y]/\φ lo x w/\ψ lo y w
def THREE (φ ψ χ:Nat->Pr):Nat->Pr:=fun lo v w=>∃ x y z,v=.tuple #[x,y,z]/\φ lo x w/\ψ lo y w/\χ lo z w
theorem ya5 {φ ψ:Nat->Pr}(h:Fresh φ)(h':Fresh ψ):Fresh (TWO φ ψ):=
 ⟨fun lo lo' v w hl ⟨x,y,e,a,b⟩=>⟨x,y,e,h.mono _ _ _ _ hl a,h'.mono _ _ _ _ hl b⟩,fun lo v w w' B hB ⟨x,y,e,a,b⟩ ev=>⟨x,y,e,h.ev _ _ _ _ B hB a ev,h'.ev _ _ _ _ B hB b ev⟩⟩
theorem ydc {φ ψ χ:Nat->Pr}(h:Fresh φ)(h':Fresh ψ)(h'':Fresh χ):Fresh (THREE φ ψ χ):=
 ⟨fun lo lo' v w hl ⟨x,y,z,e,a,b,c⟩=>⟨x,y,z,e,h.mono _ _ _ _ hl a,h'.mono _ _ _ _ hl b,h''.mono _ _ _ _ hl c⟩,fun lo v w w' B hB ⟨x,y,z,e,a,b,c⟩ ev=>⟨x,y,z,e,h.ev _ _ _ _ B hB a ev,h'.ev _ _ _ _ B hB b ev,h''.ev _ _ _ _ B hB c ev⟩⟩
section
variable {ops:Array Oper} {l:List Kd} {bx:Bxs} {sl:List (Tmp × Pr)} {i:Nat} {o:Oper} {Q:Exit->Act->World->Prop} {a0:Act} {n:Nat} {w0:World}
def Opnd (ops:Array Oper)(l:List Kd)(bx:Bxs)(sl:List (Tmp × Pr))(i:Nat)(x:Operand)(φ:Pr):Prop:=
 ∀ a0 n w0 vs B a w,Ctx ops l bx sl a0 n w0 i vs B a w->Has B w φ (a.eval x)
theorem yg5 (j d:Nat){φ:Pr}(h:((depsOf ops i).contains j && (dstOf ops j == some d))=true)(hk:kdAt l j=.val φ):Opnd ops l bx sl i (.tmp d) φ:=fun a0 n w0 vs B a w c=>by
 simp only [zh0,zid,beq_iff_eq] at h
 exact c.val j d φ h.1 (by rw [hk]; rfl) h.2
theorem ymy (k t:Nat){φ:Pr}(h:sl[k]? = some (t,φ))(hf:slotFree ops i t=true):Opnd ops l bx sl i (.tmp t) φ:=fun a0 n w0 vs B a w c=>c.slt t φ (zhl h) hf
theorem yaa (u:Value):Opnd ops l bx sl i (.const u) (Is u):=fun a0 n w0 vs B a w c w' e=>rfl
theorem Opnd.imp {x:Operand}{φ ψ:Pr}(h:Opnd ops l bx sl i x φ)(hi:∀ v w,φ v w->ψ v w):Opnd ops l bx sl i x ψ:=fun a0 n w0 vs B a w c=>(h a0 n w0 vs B a w c).imp (fun w=>hi _ w)
def Wants (ops:Array Oper)(l:List Kd)(bx:Bxs)(sl:List (Tmp × Pr))(i:Nat)(o:Oper):Prop:=∀ a0 n w0 vs B a w,Ctx ops l bx sl a0 n w0 i vs B a w->Region.wanted o (yielded ops a.tmps)=true
theorem yhr (h:o.guard=none):Wants ops l bx sl i o:=fun a0 n w0 vs B a w c=>by simp [Region.wanted,h]
theorem yh6 {a:Act}{j d:Nat}{b:Bool}(hd:dstOf ops j=some d)(h:a.eval (.tmp d)=.bool b):yielded ops a.tmps j=some b:=by
 have h1:a.tmps[d]? = some (.bool b):=by
  simp only [Act.eval] at h
  cases hx:a.tmps[d]? with
  | none=>simp [hx] at h; cases h
  | some v=>simp [hx] at h; rw [h]
 have hd':((ops[j]?).bind (·.dst))=some d:=hd
 simp [yielded,hd',h1]
theorem yxm (j d:Nat){b:Bool}(hg:o.guard=some (j,b))(h:((depsOf ops i).contains j && (dstOf ops j == some d))=true)(hk:kdAt l j=.val (Is (.bool b))):Wants ops l bx sl i o:=fun a0 n w0 vs B a w c=>by
 have hv:=(yg5 (bx:=bx) (sl:=sl) j d h hk a0 n w0 vs B a w c).now
 simp only [zh0,zid,beq_iff_eq] at h
 simp [Region.wanted,hg,yh6 h.2 hv]
theorem zam (j d:Nat){b b':Bool}(ho:ops[i]? = some o)(hk:kdAt l i=.off)(hg:o.guard=some (j,b))(h:((depsOf ops i).contains j && (dstOf ops j == some d))=true)(hkj:kdAt l j=.val (Is (.bool b')))(hb:b'≠b):Owed Tryz.prog ops Q l bx sl a0 n w0 i:=fun vs B a w c o' ho'=>by
 obtain rfl:o=o':=Option.some.inj (ho.symm.trans ho')
 have hv:=(yg5 (bx:=bx) (sl:=sl) j d h hkj a0 n w0 vs B a w c).now
 simp only [zh0,zid,beq_iff_eq] at h
 simp only [wpOp,ho]
 rw [if_neg (by simp [Region.wanted,hg,yh6 h.2 hv]; exact hb)]
 exact ⟨undef,rfl,by rw [hk]; rfl⟩
theorem ycs {φ:Pr}(ho:ops[i]? = some o)(hw:Wants ops l bx sl i o)(hk:kdAt l i=.val φ)
  (h:∀ vs B a w,Ctx ops l bx sl a0 n w0 i vs B a w->∃ v,(execOp a.eval o).run Tryz.prog w=.ok (.value v) w/\Has B w φ v):Owed Tryz.prog ops Q l bx sl a0 n w0 i:=fun vs B a w c o' ho'=>by
 obtain rfl:o=o':=Option.some.inj (ho.symm.trans ho')
 obtain ⟨v,hr,hφ⟩:=h vs B a w c
 simp only [wpOp,ho]
 rw [if_pos (hw a0 n w0 vs B a w c)]
 refine Or.inl ?_
 unfold Oper.wp
 rw [hr,Oper.upon_value]
 exact ⟨v,rfl,by rw [hk]; exact ⟨Below.refl _ _,hφ⟩⟩
theorem yim {φ:Pr}{x:Operand}(ho:ops[i]? = some o)(hw:Wants ops l bx sl i o)(hop:o.op=.move x\/o.op=.assign x)(h:Opnd ops l bx sl i x φ)(hk:kdAt l i=.val φ):Owed Tryz.prog ops Q l bx sl a0 n w0 i:=
 ycs ho hw hk fun vs B a w c=>⟨a.eval x,by unfold execOp; rcases hop with e | e <;> rw [e] <;> rfl,h a0 n w0 vs B a w c⟩
theorem ym5 {u:Value}(ho:ops[i]? = some o)(hw:Wants ops l bx sl i o)(hk:kdAt l i=.val (Is u))(h:∀ vs B a w,Ctx ops l bx sl a0 n w0 i vs B a w->(execOp a.eval o).run Tryz.prog w=.ok (.value u) w):Owed Tryz.prog ops Q l bx sl a0 n w0 i:=
 ycs ho hw hk fun vs B a w c=>⟨u,h vs B a w c,fun _ _=>rfl⟩
theorem ybt {x y:Operand}{op:BinOp}{T T':TypeId}{u v r:Value}(ho:ops[i]? = some o)(hw:Wants ops l bx sl i o)(hop:o.op=.binOp op T x y T')(hx:Opnd ops l bx sl i x (Is u))(hy:Opnd ops l bx sl i y (Is v))(hk:kdAt l i=.val (Is r))
  (hr:∀ (ρ:Operand->Value) (w:World),ρ x=u->ρ y=v->(execOp ρ { o with op:=.binOp op T x y T' }).run Tryz.prog w=.ok (.value r) w):Owed Tryz.prog ops Q l bx sl a0 n w0 i:=
 ym5 ho hw hk fun vs B a w c=>by
  have:=hr a.eval w (hx a0 n w0 vs B a w c).now (hy a0 n w0 vs B a w c).now
  rw [← this]
  unfold execOp
  rw [hop]
theorem zdz {x:Operand}{P':Op}{u r:Value}(ho:ops[i]? = some o)(hw:Wants ops l bx sl i o)(hop:o.op=P')(hx:Opnd ops l bx sl i x (Is u))(hk:kdAt l i=.val (Is r))
  (hr:∀ (ρ:Operand->Value) (w:World),ρ x=u->(execOp ρ { o with op:=P' }).run Tryz.prog w=.ok (.value r) w):Owed Tryz.prog ops Q l bx sl a0 n w0 i:=
 ym5 ho hw hk fun vs B a w c=>by
  have:=hr a.eval w (hx a0 n w0 vs B a w c).now
  rw [← this]
  unfold execOp
  rw [hop]
theorem ypw {c x y:Operand}{t:Bool}{φ:Pr}(ho:ops[i]? = some o)(hw:Wants ops l bx sl i o)(hop:o.op=.pick c x y)(hc:Opnd ops l bx sl i c (Is (.bool t)))(hx:t=true->Opnd ops l bx sl i x φ)(hy:t=false->Opnd ops l bx sl i y φ)(hk:kdAt l i=.val φ):Owed Tryz.prog ops Q l bx sl a0 n w0 i:=
 ycs ho hw hk fun vs B a w cx=>by
  have hcv:a.eval c=.bool t:=(hc a0 n w0 vs B a w cx).now
  cases t with
  | true=>exact ⟨a.eval x,by unfold execOp; rw [hop]; simp only [hcv]; rfl,hx rfl a0 n w0 vs B a w cx⟩
  | false=>exact ⟨a.eval y,by unfold execOp; rw [hop]; simp only [hcv]; rfl,hy rfl a0 n w0 vs B a w cx⟩
theorem ypu {φ ψ:Nat->Pr}{χ:Pr}{x:Operand}{k lo:Nat}(ho:ops[i]? = some o)(hw:Wants ops l bx sl i o)(hop:o.op=.extract x k)(h:Opnd ops l bx sl i x (TWO φ ψ lo))(hχ:(k=0/\χ=φ lo)\/(k=1/\χ=ψ lo))(hk:kdAt l i=.val χ):Owed Tryz.prog ops Q l bx sl a0 n w0 i:=
 ycs ho hw hk fun vs B a w c=>by
  have hx:=h a0 n w0 vs B a w c
  obtain ⟨y,z,e,_,_⟩:=hx.now
  rcases hχ with ⟨rfl,rfl⟩ | ⟨rfl,rfl⟩
  ·refine ⟨y,?_,fun w' e'=>?_⟩
   ·unfold execOp
    rw [hop]
    generalize a.eval=ρ at e
    go_simp
   ·obtain ⟨y',z',e1,h1,_⟩:=hx w' e'
    rw [e] at e1
    simp at e1
    rw [e1.1]; exact h1
  ·refine ⟨z,?_,fun w' e'=>?_⟩
   ·unfold execOp
    rw [hop]
    generalize a.eval=ρ at e
    go_simp
   ·obtain ⟨y',z',e1,_,h1⟩:=hx w' e'
    rw [e] at e1
    simp at e1
    rw [e1.2]; exact h1
theorem ylj {φ ψ χ:Nat->Pr}{θ:Pr}{x:Operand}{k lo:Nat}(ho:ops[i]? = some o)(hw:Wants ops l bx sl i o)(hop:o.op=.extract x k)(h:Opnd ops l bx sl i x (THREE φ ψ χ lo))(hχ:(k=0/\θ=φ lo)\/(k=1/\θ=ψ lo)\/(k=2/\θ=χ lo))(hk:kdAt l i=.val θ):Owed Tryz.prog ops Q l bx sl a0 n w0 i:=
 ycs ho hw hk fun vs B a w c=>by
  have hx:=h a0 n w0 vs B a w c
  obtain ⟨y,z,u,e,_,_,_⟩:=hx.now
  rcases hχ with ⟨rfl,rfl⟩ | ⟨rfl,rfl⟩ | ⟨rfl,rfl⟩
  ·refine ⟨y,?_,fun w' e'=>?_⟩
   ·unfold execOp
    rw [hop]
    generalize a.eval=ρ at e
    go_simp
   ·obtain ⟨y',z',u',e1,h1,_,_⟩:=hx w' e'
    rw [e] at e1
    simp at e1
    rw [e1.1]; exact h1
  ·refine ⟨z,?_,fun w' e'=>?_⟩
   ·unfold execOp
    rw [hop]
    generalize a.eval=ρ at e
    go_simp
   ·obtain ⟨y',z',u',e1,_,h1,_⟩:=hx w' e'
    rw [e] at e1
    simp at e1
    rw [e1.2.1]; exact h1
  ·refine ⟨u,?_,fun w' e'=>?_⟩
   ·unfold execOp
    rw [hop]
    generalize a.eval=ρ at e
    go_simp
   ·obtain ⟨y',z',u',e1,_,_,h1⟩:=hx w' e'
    rw [e] at e1
    simp at e1
    rw [e1.2.2]; exact h1
theorem ygo {ψ:Nat->Pr}{f:FuncId}{xs:Array Operand}{ts:Array TypeId}(ho:ops[i]? = some o)(hw:Wants ops l bx sl i o)(hop:o.op=.call { callee:=.value (.func f),args:=xs,argTypes:=ts })(hF:Fresh ψ)(hk:kdAt l i=.val (ψ w0.heap.size))
  (hcf:∀ args w,(callFunc f args).run Tryz.prog w=.ok (.enter f args) w)
  (h:∀ vs B a w,Ctx ops l bx sl a0 n w0 i vs B a w->Calls Tryz.prog f (xs.map a.eval) w (Gives ψ w)):Owed Tryz.prog ops Q l bx sl a0 n w0 i:=fun vs B a w c o' ho'=>by
 obtain rfl:o=o':=Option.some.inj (ho.symm.trans ho')
 have hr:(execOp a.eval o).run Tryz.prog w=.ok (.enter f (xs.map a.eval)) w:=by
  unfold execOp
  rw [hop]
  have hf:a.eval (.func f)=.func (.func f) #[] #[]:=rfl
  generalize a.eval=ρ at hf
  go_simp
 simp only [wpOp,ho]
 rw [if_pos (hw a0 n w0 vs B a w c)]
 refine Or.inl ?_
 unfold Oper.wp
 rw [hr,Oper.upon_enter]
 refine (h vs B a w c).mono ?_
 rintro e w' ⟨v,rfl,hb,hψ⟩
 refine ⟨v,rfl,?_⟩
 rw [hk]
 exact ⟨hb,fun w'' e''=>hF.mono _ _ _ _ c.lo (hF.ev _ _ _ _ B (fun k hk=>(c.bnd k hk).2) hψ e'')⟩
theorem ytv {ψ:Nat->Pr}{f:FuncId}{x:Operand}{ts:Array TypeId}{φ:Pr}(ho:ops[i]? = some o)(hw:Wants ops l bx sl i o)(hop:o.op=.call { callee:=.value (.func f),args:=#[x],argTypes:=ts })(hx:Opnd ops l bx sl i x φ)(hF:Fresh ψ)(hk:kdAt l i=.val (ψ w0.heap.size))
  (hcf:∀ args w,(callFunc f args).run Tryz.prog w=.ok (.enter f args) w) (C:∀ w u,φ u w->Calls Tryz.prog f #[u] w (Gives ψ w)):Owed Tryz.prog ops Q l bx sl a0 n w0 i:=
 ygo ho hw hop hF hk hcf fun vs B a w c=>by
  rw [show (#[x]:Array Operand).map a.eval=#[a.eval x] from by simp]
  exact C w _ (hx a0 n w0 vs B a w c).now
theorem ytw {ψ:Nat->Pr}{f:FuncId}{x y:Operand}{ts:Array TypeId}{φ φ':Pr}(ho:ops[i]? = some o)(hw:Wants ops l bx sl i o)(hop:o.op=.call { callee:=.value (.func f),args:=#[x,y],argTypes:=ts })(hx:Opnd ops l bx sl i x φ)(hy:Opnd ops l bx sl i y φ')(hF:Fresh ψ)(hk:kdAt l i=.val (ψ w0.heap.size))
  (hcf:∀ args w,(callFunc f args).run Tryz.prog w=.ok (.enter f args) w) (C:∀ w u v,φ u w->φ' v w->Calls Tryz.prog f #[u,v] w (Gives ψ w)):Owed Tryz.prog ops Q l bx sl a0 n w0 i:=
 ygo ho hw hop hF hk hcf fun vs B a w c=>by
  rw [show (#[x,y]:Array Operand).map a.eval=#[a.eval x,a.eval y] from by simp]
  exact C w _ _ (hx a0 n w0 vs B a w c).now (hy a0 n w0 vs B a w c).now
theorem yex {ψ:Nat->Pr}{f:FuncId}{ts:Array TypeId}(ho:ops[i]? = some o)(hw:Wants ops l bx sl i o)(hop:o.op=.call { callee:=.value (.func f),args:=#[],argTypes:=ts })(hF:Fresh ψ)(hk:kdAt l i=.val (ψ w0.heap.size))
  (hcf:∀ args w,(callFunc f args).run Tryz.prog w=.ok (.enter f args) w) (C:∀ w,Calls Tryz.prog f #[] w (Gives ψ w)):Owed Tryz.prog ops Q l bx sl a0 n w0 i:=
 ygo ho hw hop hF hk hcf fun vs B a w c=>by
  rw [show (#[]:Array Operand).map a.eval=#[] from by simp]
  exact C w
theorem yfw {φ:Pr}(ho:ops[i]? = some o)(hw:Wants ops l bx sl i o)(hk:kdAt l i=.val φ)
  (h:∀ vs B a w,Ctx ops l bx sl a0 n w0 i vs B a w->∃ v w',(execOp a.eval o).run Tryz.prog w=.ok (.value v) w'/\Below w.heap.size w w'/\Has B w' φ v):Owed Tryz.prog ops Q l bx sl a0 n w0 i:=fun vs B a w c o' ho'=>by
 obtain rfl:o=o':=Option.some.inj (ho.symm.trans ho')
 obtain ⟨v,w',hr,hb,hφ⟩:=h vs B a w c
 simp only [wpOp,ho]
 rw [if_pos (hw a0 n w0 vs B a w c)]
 refine Or.inl ?_
 unfold Oper.wp
 rw [hr,Oper.upon_value]
 exact ⟨v,rfl,by rw [hk]; exact ⟨hb,hφ⟩⟩
theorem ytx {χ:Pr}{f:FuncId}{xs:Array Operand}{ts:Array TypeId}(ho:ops[i]? = some o)(hw:Wants ops l bx sl i o)(hop:o.op=.call { callee:=.value (.func f),args:=xs,argTypes:=ts })(hk:kdAt l i=.val χ)
  (hcf:∀ args w,(callFunc f args).run Tryz.prog w=.ok (.enter f args) w)
  (h:∀ vs B a w,Ctx ops l bx sl a0 n w0 i vs B a w->Calls Tryz.prog f (xs.map a.eval) w fun e w'=>∃ r,e=.returned r/\Below w.heap.size w w'/\Has B w χ r):Owed Tryz.prog ops Q l bx sl a0 n w0 i:=fun vs B a w c o' ho'=>by
 obtain rfl:o=o':=Option.some.inj (ho.symm.trans ho')
 have hr:(execOp a.eval o).run Tryz.prog w=.ok (.enter f (xs.map a.eval)) w:=by
  unfold execOp
  rw [hop]
  have hf:a.eval (.func f)=.func (.func f) #[] #[]:=rfl
  generalize a.eval=ρ at hf
  go_simp
 simp only [wpOp,ho]
 rw [if_pos (hw a0 n w0 vs B a w c)]
 refine Or.inl ?_
 unfold Oper.wp
 rw [hr,Oper.upon_enter]
 refine (h vs B a w c).mono ?_
 rintro e w' ⟨v,rfl,hb,hψ⟩
 refine ⟨v,rfl,?_⟩
 rw [hk]
 exact ⟨hb,hψ.go (Ev.of_below hb) (fun _ _ x=>x)⟩
def Makes2 (f:FuncId)(φ ψ χ:Pr):Prop:=∀ w u v,φ u w->ψ v w->Calls Tryz.prog f #[u,v] w fun e w'=>∃ r,e=.returned r/\Below w.heap.size w w'/\∀ W,φ u W->ψ v W->χ r W
theorem ykl {f:FuncId}{x y:Operand}{ts:Array TypeId}{φ ψ χ:Pr}(ho:ops[i]? = some o)(hw:Wants ops l bx sl i o)(hop:o.op=.call { callee:=.value (.func f),args:=#[x,y],argTypes:=ts })(hx:Opnd ops l bx sl i x φ)(hy:Opnd ops l bx sl i y ψ)(hk:kdAt l i=.val χ)
  (hcf:∀ args w,(callFunc f args).run Tryz.prog w=.ok (.enter f args) w) (C:Makes2 f φ ψ χ):Owed Tryz.prog ops Q l bx sl a0 n w0 i:=
 ytx ho hw hop hk hcf fun vs B a w c=>by
  rw [show (#[x,y]:Array Operand).map a.eval=#[a.eval x,a.eval y] from by simp]
  have h1:=hx a0 n w0 vs B a w c
  have h2:=hy a0 n w0 vs B a w c
  refine (C w _ _ h1.now h2.now).mono ?_
  rintro e w' ⟨r,rfl,hb,hχ⟩
  exact ⟨r,rfl,hb,fun W e=>hχ W (h1 W e) (h2 W e)⟩
theorem yjc {x:Operand}{T E L:Nat}{φ:Pr}(ho:ops[i]? = some o)(hw:Wants ops l bx sl i o)(hop:o.op=.call { callee:=.builtin .len,args:=#[x],argTypes:=#[T] })(hx:Opnd ops l bx sl i x φ)(hφ:∀ v w,φ v w->∃ p c,v=.slice p L c)(hT:Tryz.prog.underlying T=some (.slice E))(hk:kdAt l i=.val (Is (.int .i64 L))):Owed Tryz.prog ops Q l bx sl a0 n w0 i:=
 ym5 ho hw hk fun vs B a w c=>by
  obtain ⟨p,k,e⟩:=hφ _ w (hx a0 n w0 vs B a w c).now
  unfold execOp
  rw [hop]
  generalize a.eval=ρ at e
  go_simp
def Loads (T:TypeId)(φ:Pr):Prop:=∀ (ρ:Operand->Value) (w:World) (o:Oper) (x:Operand) (b:Nat) (u:Value),φ u w->ρ x=.pointer (some ⟨b,0,none⟩)->w.heap[b]? = some (.cells u.cells T (0,0))->o.op=.load T x->(execOp ρ o).run Tryz.prog w=.ok (.value u) w
theorem ywv {T:TypeId}{t k:Nat}{φ:Pr}(ho:ops[i]? = some o)(hw:Wants ops l bx sl i o)(hop:o.op=.load T (.tmp t))(hb:bx[k]? = some (t,.box T φ))(hn:(unturned ops l i (.inl t) && slotFree ops i t)=true)(hL:Loads T φ)(hk:kdAt l i=.val φ):Owed Tryz.prog ops Q l bx sl a0 n w0 i:=
 ycs ho hw hk fun vs B a w c=>by
  simp only [zh0] at hn
  obtain ⟨b,u,hp,_,hu,hφ⟩:=c.box t _ (zhl hb) hn.1
  rw [← c.slot t hn.2] at hp
  exact ⟨u,hL _ w o _ _ u hφ.now hp hu hop,hφ⟩
def Part (a0:Act)(t off:Nat):Pr:=fun v _=>∃ b,a0.eval (.tmp t)=.pointer (some ⟨b,0,none⟩)/\v=.pointer (some ⟨b,off,none⟩)
theorem ypv {T:TypeId}{T' t k f off:Nat}{φ:Pr}(ho:ops[i]? = some o)(hw:Wants ops l bx sl i o)(hop:o.op=.fieldAddr T (.tmp t) f)(hb:bx[k]? = some (t,.box T' φ))(hn:(unturned ops l i (.inl t) && slotFree ops i t)=true)(hk:kdAt l i=.val (Part a0 t off))
  (hr:∀ (ρ:Operand->Value) (w:World) (b:Nat),ρ (.tmp t)=.pointer (some ⟨b,0,none⟩)->(execOp ρ { o with op:=.fieldAddr T (.tmp t) f }).run Tryz.prog w=.ok (.value (.pointer (some ⟨b,off,none⟩))) w):Owed Tryz.prog ops Q l bx sl a0 n w0 i:=
 ycs ho hw hk fun vs B a w c=>by
  simp only [zh0] at hn
  obtain ⟨b,u,hp0,_,hu,hφ⟩:=c.box t _ (zhl hb) hn.1
  have hp:=(c.slot t hn.2).trans hp0
  refine ⟨_,?_,fun _ _=>⟨_,hp0,rfl⟩⟩
  have:=hr a.eval w _ hp
  rw [← this]
  unfold execOp
  rw [hop]
theorem ya6 {T:TypeId}{t f off off':Nat}{x:Operand}(ho:ops[i]? = some o)(hw:Wants ops l bx sl i o)(hop:o.op=.fieldAddr T x f)(hx:Opnd ops l bx sl i x (Part a0 t off))(hk:kdAt l i=.val (Part a0 t off'))
  (hr:∀ (ρ:Operand->Value) (w:World) (b:Nat),ρ x=.pointer (some ⟨b,off,none⟩)->(execOp ρ { o with op:=.fieldAddr T x f }).run Tryz.prog w=.ok (.value (.pointer (some ⟨b,off',none⟩))) w):Owed Tryz.prog ops Q l bx sl a0 n w0 i:=
 ycs ho hw hk fun vs B a w c=>by
  obtain ⟨b,hp0,hv⟩:=(hx a0 n w0 vs B a w c).now
  refine ⟨_,?_,fun _ _=>⟨b,hp0,rfl⟩⟩
  have:=hr a.eval w _ hv
  rw [← this]
  unfold execOp
  rw [hop]
theorem yty {T T':TypeId}{t k off:Nat}{x:Operand}{φ χ:Pr}(ho:ops[i]? = some o)(hw:Wants ops l bx sl i o)(hop:o.op=.load T' x)(hx:Opnd ops l bx sl i x (Part a0 t off))(hb:bx[k]? = some (t,.box T φ))(hn:unturned ops l i (.inl t)=true)(hk:kdAt l i=.val χ)
  (hr:∀ (ρ:Operand->Value) (w:World) (b:Nat) (u:Value),φ u w->ρ x=.pointer (some ⟨b,off,none⟩)->w.heap[b]? = some (.cells u.cells T (0,0))->∃ v,(execOp ρ { o with op:=.load T' x }).run Tryz.prog w=.ok (.value v) w/\∀ w',φ u w'->χ v w'):Owed Tryz.prog ops Q l bx sl a0 n w0 i:=
 ycs ho hw hk fun vs B a w c=>by
  obtain ⟨b',u,hp0,_,hu,hφ⟩:=c.box t _ (zhl hb) hn
  obtain ⟨b,hb0,hv⟩:=(hx a0 n w0 vs B a w c).now
  rw [hp0] at hb0
  simp at hb0
  subst hb0
  obtain ⟨v,h1,h2⟩:=hr a.eval w _ u hφ.now hv hu
  refine ⟨v,?_,fun w' e'=>h2 w' (hφ w' e')⟩
  rw [← h1]
  unfold execOp
  rw [hop]
theorem ytj {lo:Nat}{B:Nat->Prop}{w:World}{T:TypeId}{u:Value}{φ:Pr}(h:Has B w φ u)(vs:Nat->Value):Kd.out l bx lo a0 vs B w (.pointer (some ⟨w.heap.size,0,none⟩)) (w.alloc (.cells u.cells T (0,0))) (.new (.box T φ)):=by
 have hb:Below w.heap.size w (w.alloc (.cells u.cells T (0,0))):=(Below.refl _ _).alloc (zha _) _
 refine ⟨hb,fun b hv=>?_,w.heap.size,u,rfl,Or.inr rfl,heap_alloc_last _ _,h.go (Ev.of_below hb) (fun k hk hk'=>?_)⟩
 ·simp [Rk.set,vblock] at hv
  subst hv
  simp
 ·rcases hk' with h1 | h1
  ·exact h1
  ·simp [Rk.set,vblock] at h1; omega
theorem zal {T:TypeId}{u:Value}(ho:ops[i]? = some o)(hw:Wants ops l bx sl i o)(hop:o.op=.alloc T)(hk:kdAt l i=.new (.box T (Is u)))(hr:∀ (ρ:Operand->Value) (w:World),(execOp ρ { o with op:=.alloc T }).run Tryz.prog w=.ok (.value (.pointer (some ⟨w.heap.size,0,none⟩))) (w.alloc (.cells u.cells T (0,0)))):Owed Tryz.prog ops Q l bx sl a0 n w0 i:=fun vs B a w c o' ho'=>by
 obtain rfl:o=o':=Option.some.inj (ho.symm.trans ho')
 have h:(execOp a.eval o).run Tryz.prog w=.ok (.value (.pointer (some ⟨w.heap.size,0,none⟩))) (w.alloc (.cells u.cells T (0,0))):=by
  rw [← hr a.eval w]
  unfold execOp
  rw [hop]
 simp only [wpOp,ho]
 rw [if_pos (hw a0 n w0 vs B a w c)]
 refine Or.inl ?_
 unfold Oper.wp
 rw [h,Oper.upon_value]
 exact ⟨_,rfl,by rw [hk]; exact ytj (fun _ _=>rfl) vs⟩
theorem ytu {T:TypeId}{x:Operand}{φ:Pr}(ho:ops[i]? = some o)(hw:Wants ops l bx sl i o)(hop:o.op=.box T x)(hx:Opnd ops l bx sl i x φ)(hk:kdAt l i=.new (.box T φ))(hr:∀ (ρ:Operand->Value) (w:World),φ (ρ x) w->(execOp ρ { o with op:=.box T x }).run Tryz.prog w=.ok (.value (.pointer (some ⟨w.heap.size,0,none⟩))) (w.alloc (.cells (ρ x).cells T (0,0)))):Owed Tryz.prog ops Q l bx sl a0 n w0 i:=fun vs B a w c o' ho'=>by
 obtain rfl:o=o':=Option.some.inj (ho.symm.trans ho')
 have hφ:=hx a0 n w0 vs B a w c
 have h:(execOp a.eval o).run Tryz.prog w=.ok (.value (.pointer (some ⟨w.heap.size,0,none⟩))) (w.alloc (.cells (a.eval x).cells T (0,0))):=by
  rw [← hr a.eval w hφ.now]
  unfold execOp
  rw [hop]
 simp only [wpOp,ho]
 rw [if_pos (hw a0 n w0 vs B a w c)]
 refine Or.inl ?_
 unfold Oper.wp
 rw [h,Oper.upon_value]
 exact ⟨_,rfl,by rw [hk]; exact ytj hφ vs⟩
def Stores (T:TypeId)(φ ψ:Pr):Prop:=∀ (ρ:Operand->Value) (w:World) (o:Oper) (x y:Operand) (b:Nat) (u:Value),φ u w->w.heap[b]? = some (.cells u.cells T (0,0))->ρ x=.pointer (some ⟨b,0,none⟩)->ψ (ρ y) w->o.op=.store T x y->(execOp ρ o).run Tryz.prog w=.ok .skip (w.setRow b (ρ y).cells)
theorem setRow_other (w:World)(b k:Nat)(c:Array Value)(h:k≠b):(w.setRow b c).heap[k]? = w.heap[k]?:=by unfold World.setRow; simp only [Array.getElem?_modify]; rw [if_neg (Ne.symm h)]
theorem yd8 (w:World)(b:Nat)(c:Array Value):(w.setRow b c).heap.size=w.heap.size:=by simp [World.setRow]
theorem yoh {lo:Nat}{B:Nat->Prop}{w:World}{T:TypeId}{u v:Value}{ψ:Pr}{b:Nat}{x:Id}{vs:Nat->Value}(hid:∀ b,vblock (hnd a0 vs x)=some b->idset l bx a0 vs x b)(hx:hnd a0 vs x=.pointer (some ⟨b,0,none⟩))(hB:B b)(hu:w.heap[b]? = some (.cells u.cells T (0,0)))(h:Has B w ψ v)(z:Value):Kd.out l bx lo a0 vs B w z (w.setRow b v.cells) (.put x (.box T ψ)):=by
 have hc:Chg (fun k=>vblock (hnd a0 vs x)=some k) w (w.setRow b v.cells):=⟨rfl,rfl,rfl,Nat.le_of_eq (yd8 _ _ _).symm,fun k _ hn=>setRow_other _ _ _ _ (fun e=>hn (by rw [hx,e]; rfl))⟩
 refine ywq hid rfl hc ⟨b,v,hx,hB,setRow_heap w _ _ _ _ _ hu,h.go ⟨rfl,rfl,rfl,Nat.le_of_eq (yd8 _ _ _).symm,fun k _ hn=>setRow_other _ _ _ _ (fun e=>hn (e ▸ hB))⟩ (fun _ _ x=>x)⟩
theorem zap {T:TypeId}{t k:Nat}{y:Operand}{φ ψ:Pr}(ho:ops[i]? = some o)(hw:Wants ops l bx sl i o)(hop:o.op=.store T (.tmp t) y)(hb:bx[k]? = some (t,.box T φ))(hn:(unturned ops l i (.inl t) && slotFree ops i t)=true)(hy:Opnd ops l bx sl i y ψ)(hS:Stores T φ ψ)(hk:kdAt l i=.put (.inl t) (.box T ψ)):Owed Tryz.prog ops Q l bx sl a0 n w0 i:=fun vs B a w c o' ho'=>by
 obtain rfl:o=o':=Option.some.inj (ho.symm.trans ho')
 simp only [zh0] at hn
 obtain ⟨b,u,hp0,hB,hu,hφ⟩:=c.box t _ (zhl hb) hn.1
 have hp:=(c.slot t hn.2).trans hp0
 have hψ:=hy a0 n w0 vs B a w c
 have h:=hS a.eval w o (.tmp t) y b u hφ.now hu hp hψ.now hop
 simp only [wpOp,ho]
 rw [if_pos (hw a0 n w0 vs B a w c)]
 refine Or.inl ?_
 unfold Oper.wp
 rw [h,Oper.upon_skip]
 exact ⟨undef,rfl,by rw [hk]; exact yoh (x:=.inl t) (fun b h=>yew (x:=.inl t) (zhl hb) rfl h) hp0 hB hu hψ _⟩
theorem zan {T:TypeId}{t:Nat}(j:Nat){y:Operand}{φ ψ:Pr}(ho:ops[i]? = some o)(hw:Wants ops l bx sl i o)(hop:o.op=.store T (.tmp t) y)(hj:((depsOf ops i).contains j && (dstOf ops j == some t) && unturned ops l i (.inr j))=true)(hkj:(kdAt l j).rk=some (.box T φ))(hy:Opnd ops l bx sl i y ψ)(hS:Stores T φ ψ)(hk:kdAt l i=.put (.inr j) (.box T ψ)):Owed Tryz.prog ops Q l bx sl a0 n w0 i:=fun vs B a w c o' ho'=>by
 obtain rfl:o=o':=Option.some.inj (ho.symm.trans ho')
 simp only [zh0,zid,beq_iff_eq] at hj
 obtain ⟨he,hat⟩:=c.news j t _ hj.1.1 hkj hj.1.2
 obtain ⟨b,u,hp0,hB,hu,hφ⟩:=hat hj.2
 have hp:=he.trans hp0
 have hψ:=hy a0 n w0 vs B a w c
 have h:=hS a.eval w o (.tmp t) y b u hφ.now hu hp hψ.now hop
 simp only [wpOp,ho]
 rw [if_pos (hw a0 n w0 vs B a w c)]
 refine Or.inl ?_
 unfold Oper.wp
 rw [h,Oper.upon_skip]
 exact ⟨undef,rfl,by rw [hk]; exact yoh (x:=.inr j) (fun b h=>yew (x:=.inr j) hkj rfl h) hp0 hB hu hψ _⟩
theorem yog (j:Nat){d:Tmp}(ho:ops[i]? = some o)(hw:Wants ops l bx sl i o)(hop:o.op=.move (.tmp d)\/o.op=.assign (.tmp d)){r:Rk}(hj:((depsOf ops i).contains j && (dstOf ops j == some d))=true)(hkj:(kdAt l j).rk=some r)(hk:kdAt l i=.ref j):Owed Tryz.prog ops Q l bx sl a0 n w0 i:=fun vs B a w c o' ho'=>by
 obtain rfl:o=o':=Option.some.inj (ho.symm.trans ho')
 simp only [zh0,zid,beq_iff_eq] at hj
 obtain ⟨he,_⟩:=c.news j d _ hj.1 hkj hj.2
 simp only [wpOp,ho]
 rw [if_pos (hw a0 n w0 vs B a w c)]
 refine Or.inl ?_
 unfold Oper.wp
 have h:(execOp a.eval o).run Tryz.prog w=.ok (.value (a.eval (.tmp d))) w:=by
  unfold execOp
  rcases hop with e | e <;> rw [e] <;> rfl
 rw [h,Oper.upon_value]
 exact ⟨_,rfl,by rw [hk]; exact ⟨rfl,he⟩⟩
theorem ypx {t:Tmp}(ho:ops[i]? = some o)(hw:Wants ops l bx sl i o)(hop:o.op=.move (.tmp t)\/o.op=.assign (.tmp t))(hf:slotFree ops i t=true)(hk:kdAt l i=.val (Is (a0.eval (.tmp t)))):Owed Tryz.prog ops Q l bx sl a0 n w0 i:=
 ycs ho hw hk fun vs B a w c=>⟨a.eval (.tmp t),by unfold execOp; rcases hop with e | e <;> rw [e] <;> rfl,fun _ _=>c.slot t hf⟩
end
theorem ydr {w0:World}{a:Act}{n:Nat}{sl:List (Tmp × Pr)}(hs:a.tmps.size=n)(hd:a.defers=[])(h:∀ x ∈ sl,Has (fun _=>False) w0 x.2 (a.eval (.tmp x.1))):Sta w0 n [] sl (fun _=>False) a w0:=
 ⟨Below.refl _ _,(fun _ h=>h.elim),hs,hd,(fun _ h=>nomatch h),(fun _ h=>nomatch h),h⟩
theorem Sta.bool {w0 W:World}{n:Nat}{bx:Bxs}{sl:List (Tmp × Pr)}{B:Nat->Prop}{a:Act}(S:Sta w0 n bx sl B a W)(k t:Nat){b:Bool}(h:sl[k]? = some (t,Is (.bool b))):a.eval (.tmp t)=.bool b:=(S.slt _ (zhl h)).now
theorem Sta.content {w0 W:World}{n:Nat}{bx:Bxs}{sl:List (Tmp × Pr)}{B:Nat->Prop}{a:Act}(S:Sta w0 n bx sl B a W)(k t:Nat){T:TypeId}{φ:Pr}(h:bx[k]? = some (t,.box T φ)):∃ b u,a.tmps.getD t undef=.pointer (some ⟨b,0,none⟩)/\W.heap[b]? = some (.cells (Value.cells u) T (0,0))/\φ u W:=by
 obtain ⟨b,u,hp,_,hu,hφ⟩:=S.box _ (zhl h)
 exact ⟨b,u,hp,hu,hφ.now⟩
theorem Sta.slot {w0 W:World}{n:Nat}{bx:Bxs}{sl:List (Tmp × Pr)}{B:Nat->Prop}{a:Act}(S:Sta w0 n bx sl B a W)(k t:Nat){φ:Pr}(h:sl[k]? = some (t,φ)):φ (a.tmps.getD t undef) W:=(S.slt _ (zhl h)).now
theorem jj1 {A:Prop}(a:A):True/\A:=⟨trivial,a⟩
theorem jj2 {A B:Prop}(a:A)(b:B):(True/\A)/\B:=⟨jj1 a,b⟩
theorem jj3 {A B C:Prop}(a:A)(b:B)(c:C):((True/\A)/\B)/\C:=⟨jj2 a b,c⟩
theorem jj4 {A B C D:Prop}(a:A)(b:B)(c:C)(d:D):(((True/\A)/\B)/\C)/\D:=⟨jj3 a b c,d⟩
theorem jj5 {A B C D E:Prop}(a:A)(b:B)(c:C)(d:D)(e:E):((((True/\A)/\B)/\C)/\D)/\E:=⟨jj4 a b c d,e⟩
theorem jj6 {A B C D E F:Prop}(a:A)(b:B)(c:C)(d:D)(e:E)(f:F):(((((True/\A)/\B)/\C)/\D)/\E)/\F:=⟨jj5 a b c d e,f⟩
theorem jj7 {A B C D E F G:Prop}(a:A)(b:B)(c:C)(d:D)(e:E)(f:F)(g:G):((((((True/\A)/\B)/\C)/\D)/\E)/\F)/\G:=⟨jj6 a b c d e f,g⟩
theorem jj8 {A B C D E F G H:Prop}(a:A)(b:B)(c:C)(d:D)(e:E)(f:F)(g:G)(h:H):(((((((True/\A)/\B)/\C)/\D)/\E)/\F)/\G)/\H:=⟨jj7 a b c d e f g,h⟩
section
variable {ops:Array Oper} {l:List Kd} {bx:Bxs} {sl:List (Tmp × Pr)} {i:Nat} {o:Oper} {Q:Exit->Act->World->Prop} {a0:Act} {n:Nat} {w0:World}
abbrev V:Pr->Kd:=.val
abbrev Fw (φ:Nat->Pr)(w:World):Kd:=.val (φ w.heap.size)
abbrev Zt {w0:World}{n:Nat}(bx:Bxs)(sl:List (Tmp × Pr)){B:Nat->Prop}{a:Act}{W:World}:Prop:=Sta w0 n bx sl B a W
abbrev CG (f:FuncId)(args:Array Value)(w:World)(ψ:Nat->Pr):Prop:=Calls Tryz.prog f args w (Gives ψ w)
abbrev ur2:List (Nat ⊕ Nat):=[.inr 0,.inr 1]
abbrev ur3:List (Nat ⊕ Nat):=[.inr 0,.inr 1,.inr 2]
abbrev ur4:List (Nat ⊕ Nat):=[.inr 0,.inr 1,.inr 2,.inr 3]
abbrev ur5:List (Nat ⊕ Nat):=[.inr 0,.inr 1,.inr 2,.inr 3,.inr 4]
abbrev ur7:List (Nat ⊕ Nat):=[.inr 0,.inr 1,.inr 2,.inr 3,.inr 4,.inr 5,.inr 6]
abbrev kT:Kd:=.val (Is (.bool true))
abbrev kF:Kd:=.val (Is (.bool false))
abbrev bT:Pr:=Is (.bool true)
abbrev bF:Pr:=Is (.bool false)
abbrev zI:Pr:=Is (.agg #[.bool false,.slice none 0 0])
abbrev zR:Pr:=Is (.agg #[.bool false,.slice none 0 0,.bool false,.slice none 0 0])
abbrev iV (x:Int):Pr:=Is (.int .i64 x)
theorem oO (j d:Nat){φ:Pr}(h:((depsOf ops i).contains j && (dstOf ops j == some d))=true:=by kernel_rfl)(hk:kdAt l j=.val φ:=by exact rfl):Opnd ops l bx sl i (.tmp d) φ:=yg5 j d h hk
theorem oS (k t:Nat){φ:Pr}(h:sl[k]? = some (t,φ):=by exact rfl)(hf:slotFree ops i t=true:=by kernel_rfl):Opnd ops l bx sl i (.tmp t) φ:=ymy k t h hf
theorem qO (j d:Nat){φ:Pr}(hk:kdAt l j=.val φ)(h:((depsOf ops i).contains j && (dstOf ops j == some d))=true:=by kernel_rfl):Opnd ops l bx sl i (.tmp d) φ:=yg5 j d h hk
theorem wA (ho:ops[i]? = some o:=by exact rfl)(h:o.guard=none:=by exact rfl):Wants ops l bx sl i o:=yhr h
theorem wI (j d:Nat){b:Bool}(ho:ops[i]? = some o:=by exact rfl)(hg:o.guard=some (j,b):=by exact rfl)(h:((depsOf ops i).contains j && (dstOf ops j == some d))=true:=by kernel_rfl)(hk:kdAt l j=.val (Is (.bool b)):=by exact rfl):Wants ops l bx sl i o:=yxm j d hg h hk
theorem mW {φ:Pr}{x:Operand}(hw:Wants ops l bx sl i o)(h:Opnd ops l bx sl i x φ)(ho:ops[i]? = some o:=by exact rfl)(hop:o.op=.move x\/o.op=.assign x:=by first | exact Or.inl rfl | exact Or.inr rfl)(hk:kdAt l i=.val φ:=by exact rfl):Owed Tryz.prog ops Q l bx sl a0 n w0 i:=yim ho hw hop h hk
theorem mO (j d:Nat){φ:Pr}(ho:ops[i]? = some o:=by exact rfl)(hg:o.guard=none:=by exact rfl)(hop:o.op=.move (.tmp d)\/o.op=.assign (.tmp d):=by first | exact Or.inl rfl | exact Or.inr rfl)(h:((depsOf ops i).contains j && (dstOf ops j == some d))=true:=by kernel_rfl)(hj:kdAt l j=.val φ:=by exact rfl)(hk:kdAt l i=.val φ:=by exact rfl):Owed Tryz.prog ops Q l bx sl a0 n w0 i:=yim ho (yhr hg) hop (yg5 j d h hj) hk
theorem mS (k t:Nat){φ:Pr}(ho:ops[i]? = some o:=by exact rfl)(hg:o.guard=none:=by exact rfl)(hop:o.op=.move (.tmp t)\/o.op=.assign (.tmp t):=by first | exact Or.inl rfl | exact Or.inr rfl)(h:sl[k]? = some (t,φ):=by exact rfl)(hf:slotFree ops i t=true:=by kernel_rfl)(hk:kdAt l i=.val φ:=by exact rfl):Owed Tryz.prog ops Q l bx sl a0 n w0 i:=yim ho (yhr hg) hop (ymy k t h hf) hk
theorem mC {u:Value}(ho:ops[i]? = some o:=by exact rfl)(hg:o.guard=none:=by exact rfl)(hop:o.op=.move (.const u)\/o.op=.assign (.const u):=by first | exact Or.inl rfl | exact Or.inr rfl)(hk:kdAt l i=.val (Is u):=by exact rfl):Owed Tryz.prog ops Q l bx sl a0 n w0 i:=yim ho (yhr hg) hop (yaa u) hk
theorem oF (j d:Nat){b b':Bool}(ho:ops[i]? = some o:=by exact rfl)(hk:kdAt l i=.off:=by exact rfl)(hg:o.guard=some (j,b):=by exact rfl)(h:((depsOf ops i).contains j && (dstOf ops j == some d))=true:=by kernel_rfl)(hkj:kdAt l j=.val (Is (.bool b')):=by exact rfl)(hb:b'≠b:=by decide):Owed Tryz.prog ops Q l bx sl a0 n w0 i:=zam j d ho hk hg h hkj hb
theorem pT {c x y:Operand}{φ:Pr}(hw:Wants ops l bx sl i o)(hc:Opnd ops l bx sl i c (Is (.bool true)))(hx:Opnd ops l bx sl i x φ)(ho:ops[i]? = some o:=by exact rfl)(hop:o.op=.pick c x y:=by exact rfl)(hk:kdAt l i=.val φ:=by exact rfl):Owed Tryz.prog ops Q l bx sl a0 n w0 i:=ypw ho hw hop hc (fun _=>hx) (fun h=>nomatch h) hk
theorem pF {c x y:Operand}{φ:Pr}(hw:Wants ops l bx sl i o)(hc:Opnd ops l bx sl i c (Is (.bool false)))(hy:Opnd ops l bx sl i y φ)(ho:ops[i]? = some o:=by exact rfl)(hop:o.op=.pick c x y:=by exact rfl)(hk:kdAt l i=.val φ:=by exact rfl):Owed Tryz.prog ops Q l bx sl a0 n w0 i:=ypw ho hw hop hc (fun h=>nomatch h) (fun _=>hy) hk
theorem e20 {φ ψ:Nat->Pr}{x:Operand}{lo:Nat}(hw:Wants ops l bx sl i o)(h:Opnd ops l bx sl i x (TWO φ ψ lo))(ho:ops[i]? = some o:=by exact rfl)(hop:o.op=.extract x 0:=by exact rfl)(hk:kdAt l i=.val (φ lo):=by exact rfl):Owed Tryz.prog ops Q l bx sl a0 n w0 i:=ypu ho hw hop h (Or.inl ⟨rfl,rfl⟩) hk
theorem e21 {φ ψ:Nat->Pr}{x:Operand}{lo:Nat}(hw:Wants ops l bx sl i o)(h:Opnd ops l bx sl i x (TWO φ ψ lo))(ho:ops[i]? = some o:=by exact rfl)(hop:o.op=.extract x 1:=by exact rfl)(hk:kdAt l i=.val (ψ lo):=by exact rfl):Owed Tryz.prog ops Q l bx sl a0 n w0 i:=ypu ho hw hop h (Or.inr ⟨rfl,rfl⟩) hk
theorem e30 {φ ψ χ:Nat->Pr}{x:Operand}{lo:Nat}(hw:Wants ops l bx sl i o)(h:Opnd ops l bx sl i x (THREE φ ψ χ lo))(ho:ops[i]? = some o:=by exact rfl)(hop:o.op=.extract x 0:=by exact rfl)(hk:kdAt l i=.val (φ lo):=by exact rfl):Owed Tryz.prog ops Q l bx sl a0 n w0 i:=ylj ho hw hop h (Or.inl ⟨rfl,rfl⟩) hk
theorem e31 {φ ψ χ:Nat->Pr}{x:Operand}{lo:Nat}(hw:Wants ops l bx sl i o)(h:Opnd ops l bx sl i x (THREE φ ψ χ lo))(ho:ops[i]? = some o:=by exact rfl)(hop:o.op=.extract x 1:=by exact rfl)(hk:kdAt l i=.val (ψ lo):=by exact rfl):Owed Tryz.prog ops Q l bx sl a0 n w0 i:=ylj ho hw hop h (Or.inr (Or.inl ⟨rfl,rfl⟩)) hk
theorem e32 {φ ψ χ:Nat->Pr}{x:Operand}{lo:Nat}(hw:Wants ops l bx sl i o)(h:Opnd ops l bx sl i x (THREE φ ψ χ lo))(ho:ops[i]? = some o:=by exact rfl)(hop:o.op=.extract x 2:=by exact rfl)(hk:kdAt l i=.val (χ lo):=by exact rfl):Owed Tryz.prog ops Q l bx sl a0 n w0 i:=ylj ho hw hop h (Or.inr (Or.inr ⟨rfl,rfl⟩)) hk
theorem cc1 {ψ:Nat->Pr}{f:FuncId}{x:Operand}{ts:Array TypeId}{φ:Pr}(hw:Wants ops l bx sl i o)(hx:Opnd ops l bx sl i x φ)(hF:Fresh ψ)(C:∀ w u,φ u w->Calls Tryz.prog f #[u] w (Gives ψ w))(ho:ops[i]? = some o:=by exact rfl)(hop:o.op=.call { callee:=.value (.func f),args:=#[x],argTypes:=ts }:=by exact rfl)(hk:kdAt l i=.val (ψ w0.heap.size):=by exact rfl)(hcf:∀ args w,(callFunc f args).run Tryz.prog w=.ok (.enter f args) w:=by intro args w; go_simp):Owed Tryz.prog ops Q l bx sl a0 n w0 i:=ytv ho hw hop hx hF hk hcf C
theorem cc2 {ψ:Nat->Pr}{f:FuncId}{x y:Operand}{ts:Array TypeId}{φ φ':Pr}(hw:Wants ops l bx sl i o)(hx:Opnd ops l bx sl i x φ)(hy:Opnd ops l bx sl i y φ')(hF:Fresh ψ)(C:∀ w u v,φ u w->φ' v w->Calls Tryz.prog f #[u,v] w (Gives ψ w))(ho:ops[i]? = some o:=by exact rfl)(hop:o.op=.call { callee:=.value (.func f),args:=#[x,y],argTypes:=ts }:=by exact rfl)(hk:kdAt l i=.val (ψ w0.heap.size):=by exact rfl)(hcf:∀ args w,(callFunc f args).run Tryz.prog w=.ok (.enter f args) w:=by intro args w; go_simp):Owed Tryz.prog ops Q l bx sl a0 n w0 i:=ytw ho hw hop hx hy hF hk hcf C
theorem nwA {T:TypeId}{u:Value}(hw:Wants ops l bx sl i o)(hr:∀ (ρ:Operand->Value) (o:Oper) (w:World),(execOp ρ { o with op:=.alloc T }).run Tryz.prog w=.ok (.value (.pointer (some ⟨w.heap.size,0,none⟩))) (w.alloc (.cells u.cells T (0,0))))(ho:ops[i]? = some o:=by exact rfl)(hop:o.op=.alloc T:=by exact rfl)(hk:kdAt l i=.new (.box T (Is u)):=by exact rfl):Owed Tryz.prog ops Q l bx sl a0 n w0 i:=zal ho hw hop hk (fun ρ w=>hr ρ o w)
theorem bxA {T:TypeId}{x:Operand}{φ:Pr}(hw:Wants ops l bx sl i o)(hx:Opnd ops l bx sl i x φ)(hr:∀ (ρ:Operand->Value) (o:Oper) (x:Operand) (w:World),φ (ρ x) w->(execOp ρ { o with op:=.box T x }).run Tryz.prog w=.ok (.value (.pointer (some ⟨w.heap.size,0,none⟩))) (w.alloc (.cells (ρ x).cells T (0,0))))(ho:ops[i]? = some o:=by exact rfl)(hop:o.op=.box T x:=by exact rfl)(hk:kdAt l i=.new (.box T φ):=by exact rfl):Owed Tryz.prog ops Q l bx sl a0 n w0 i:=ytu ho hw hop hx hk (fun ρ w h=>hr ρ o x w h)
theorem ptA {T:TypeId}{T' t f d:Nat}{φ:Pr}(hw:Wants ops l bx sl i o)(k:Nat)(hr:∀ (ρ:Operand->Value) (o:Oper) (x:Operand) (w:World) (b g:Nat),ρ x=.pointer (some ⟨b,g,none⟩)->(execOp ρ { o with op:=.fieldAddr T x f }).run Tryz.prog w=.ok (.value (.pointer (some ⟨b,g+d,none⟩))) w)(ho:ops[i]? = some o:=by exact rfl)(hop:o.op=.fieldAddr T (.tmp t) f:=by exact rfl)(hb:bx[k]? = some (t,.box T' φ):=by exact rfl)(hn:(unturned ops l i (.inl t) && slotFree ops i t)=true:=by kernel_rfl)(hk:kdAt l i=.val (Part a0 t d):=by exact rfl):Owed Tryz.prog ops Q l bx sl a0 n w0 i:=ypv ho hw hop hb hn hk (fun ρ w b h=>by have q:=hr ρ o _ w b 0 h; rwa [zig] at q)
theorem ptZ {T:TypeId}{T' t f:Nat}{φ:Pr}(hw:Wants ops l bx sl i o)(k:Nat)(hr:∀ (ρ:Operand->Value) (o:Oper) (x:Operand) (w:World) (b g:Nat),ρ x=.pointer (some ⟨b,g,none⟩)->(execOp ρ { o with op:=.fieldAddr T x f }).run Tryz.prog w=.ok (.value (.pointer (some ⟨b,g,none⟩))) w)(ho:ops[i]? = some o:=by exact rfl)(hop:o.op=.fieldAddr T (.tmp t) f:=by exact rfl)(hb:bx[k]? = some (t,.box T' φ):=by exact rfl)(hn:(unturned ops l i (.inl t) && slotFree ops i t)=true:=by kernel_rfl)(hk:kdAt l i=.val (Part a0 t 0):=by exact rfl):Owed Tryz.prog ops Q l bx sl a0 n w0 i:=ypv ho hw hop hb hn hk (fun ρ w b h=>hr ρ o _ w b 0 h)
theorem plA {T T':TypeId}{t off:Nat}{x:Operand}{φ χ:Pr}(hw:Wants ops l bx sl i o)(hx:Opnd ops l bx sl i x (Part a0 t off))(k:Nat)(hb:bx[k]? = some (t,.box T φ))(hk:kdAt l i=.val χ)(hr:∀ (ρ:Operand->Value) (o:Oper) (x:Operand) (w:World) (b:Nat) (u:Value),φ u w->ρ x=.pointer (some ⟨b,off,none⟩)->w.heap[b]? = some (.cells u.cells T (0,0))->∃ v,(execOp ρ { o with op:=.load T' x }).run Tryz.prog w=.ok (.value v) w/\∀ w',φ u w'->χ v w')(ho:ops[i]? = some o:=by exact rfl)(hop:o.op=.load T' x:=by exact rfl)(hn:unturned ops l i (.inl t)=true:=by kernel_rfl):Owed Tryz.prog ops Q l bx sl a0 n w0 i:=yty ho hw hop hx hb hn hk (fun ρ w b u h1 h2 h3=>hr ρ o x w b u h1 h2 h3)
end
end Go.Proofs.YtdnindaohpdblaaGreat

namespace Go.Proofs.YtdnindaohpdblaaGreat
open Go Go.RowKit Nt
set_option maxRecDepth 20000
set_option maxHeartbeats 16000000
theorem yj1 {B:Nat->Prop}{w w':World}{p:Option Addr}{n c:Nat}{xs:List Nat}(h:Sl w p n c xs)(hB:∀ b o,p=some ⟨b,o,none⟩->b < w.heap.size->¬ B b)(e:Ev B w w'):Sl w' p n c xs:=
 ⟨h.len,h.cap,h.max,h.nil,h.ok,fun i hi=>by
  obtain ⟨b,o,e1,hc⟩:=h.lie i hi
  have hlt:=yb3 hc
  exact ⟨b,o,e1,(World.cell?_of_block (w:=w) (e.block b hlt (hB b o e1 hlt))).trans hc⟩⟩
def Zx (s:Bool)(p:Option Addr)(n c:Nat)(xs:List Nat):Pr:=fun v w=>v=.agg #[.bool s,.slice p n c]/\Sl w p n c xs
def Nx (p:Option Addr)(n c:Nat)(xs:List Nat):Pr:=fun v w=>v=.slice p n c/\Sl w p n c xs
def Zv (A:Int)(k:Nat):Pr:=fun v w=>∃ s p n c xs,v=.agg #[.bool s,.slice p n c]/\Sl w p n c xs/\sg s (val xs)=A/\n<=k
def Nv (m k:Nat):Pr:=fun v w=>∃ p n c xs,v=.slice p n c/\Sl w p n c xs/\val xs=m/\n<=k
def ZN (z:Int):Nat->Pr:=fun lo v w=>∃ r c,v=.agg #[.bool (ng z),.slice r (digs z.natAbs).length c]/\Sl w r (digs z.natAbs).length c (digs z.natAbs)/\∀ b o,r=some ⟨b,o,none⟩->lo<=b
def NN (m:Nat):Nat->Pr:=fun lo v w=>∃ r c,v=.slice r (digs m).length c/\Sl w r (digs m).length c (digs m)/\∀ b o,r=some ⟨b,o,none⟩->lo<=b
theorem yah (z:Int):Fresh (ZN z):=
  ⟨fun lo lo' v w hl ⟨r,c,e,hs,hf⟩=>⟨r,c,e,hs,fun b o h=>zhb hl (hf b o h)⟩,
   fun lo v w w' B hB ⟨r,c,e,hs,hf⟩ ev=>⟨r,c,e,yj1 hs (fun b o e2 _ hb=>by have:=hB b hb; have:=hf b o e2; omega) ev,hf⟩⟩
theorem yfv (m:Nat):Fresh (NN m):=
  ⟨fun lo lo' v w hl ⟨r,c,e,hs,hf⟩=>⟨r,c,e,hs,fun b o h=>zhb hl (hf b o h)⟩,
   fun lo v w w' B hB ⟨r,c,e,hs,hf⟩ ev=>⟨r,c,e,yj1 hs (fun b o e2 _ hb=>by have:=hB b hb; have:=hf b o e2; omega) ev,hf⟩⟩
theorem zg9 {s:Bool}{p:Option Addr}{n c:Nat}{xs:List Nat}{k:Nat}(hk:n<=k):∀ v w,Zx s p n c xs v w->Zv (sg s (val xs)) k v w:=fun v w ⟨e,h⟩=>⟨s,p,n,c,xs,e,h,rfl,hk⟩
theorem ynw {s:Bool}{p:Option Addr}{n c:Nat}{xs:List Nat}{k:Nat}{A:Int}(hA:sg s (val xs)=A)(hk:n<=k):∀ v w,Zx s p n c xs v w->Zv A k v w:=fun v w ⟨e,h⟩=>⟨s,p,n,c,xs,e,h,hA,hk⟩
theorem yoe {p:Option Addr}{n c:Nat}{xs:List Nat}{k:Nat}(hk:n<=k):∀ v w,Nx p n c xs v w->Nv (val xs) k v w:=fun v w ⟨e,h⟩=>⟨p,n,c,xs,e,h,rfl,hk⟩
theorem ybf {z:Int}{lo k:Nat}(hk:(digs z.natAbs).length<=k):∀ v w,ZN z lo v w->Zv z k v w:=fun v w ⟨r,c,e,h,_⟩=>⟨_,_,_,_,_,e,h,by rw [yaf,yh1],hk⟩
theorem yrg {m:Nat}{lo k:Nat}(hk:(digs m).length<=k):∀ v w,NN m lo v w->Nv m k v w:=fun v w ⟨r,c,e,h,_⟩=>⟨_,_,_,_,e,h,yaf m,hk⟩
theorem yhs {s:Bool}{p:Option Addr}{n c:Nat}{xs:List Nat}{w:World}(h:Sl w p n c xs):Has (fun _=>False) w (Zx s p n c xs) (.agg #[.bool s,.slice p n c]):=fun w' e=>⟨rfl,yj1 h (fun _ _ _ _ h=>h) e⟩
theorem ycy {B:Nat->Prop}{w:World}(u:Value):Has B w (Is u) u:=fun _ _=>rfl
def Shp (n:Nat)(φ:Pr):Prop:=∀ u w,φ u w->∃ cs:Array Value,u=.agg cs/\cs.size=n/\cs.all (·.oneCell')=true
def Strct (T:TypeId)(n:Nat):Prop:=(∃ d,Tryz.prog.underlying T=some d/\d.isRow=true)/\(Tryz.prog.info? T).map (·.size)=some n
theorem yp6 {w:World}{b:Nat}{cs:Array Value}{T:TypeId}(h:w.heap[b]? = some (.cells cs T (0,0))):w.rangeAt b 0 cs.toList:=fun j v hv=>by
 simp only [World.cell?,h,zig]
 simpa using hv
theorem yxf {w:World}{b n:Nat}{cs:Array Value}{T:TypeId}(h:w.heap[b]? = some (.cells cs T (0,0)))(hn:cs.size=n):w.there b 0 n:=fun j hj=>by
 refine ⟨?_,by simp [World.frozen?,h]⟩
 simp only [World.cell?,h,zig]
 simp [show j < cs.size from by omega]
theorem ywj {T n:Nat}(hT:Strct T n){φ:Pr}(h:Shp n φ):Loads T φ:=fun ρ w o x b u hφ hx hb hop=>by
 obtain ⟨cs,rfl,hn,_⟩:=h u w hφ
 obtain ⟨⟨d,hu,hd⟩,hi⟩:=hT
 unfold execOp
 simp only [hop,hx,Sem.run_bind,run_loadAt_mid (P:=Tryz.prog) w b 0 T cs.toList d (yp6 hb) hu hd (by rw [hi]; simp [hn]),Result.andThen_ok,Sem.run_pure]
theorem ynk (w:World)(b:Nat)(c d:Array Value):(w.setRow b c).setRow b d=w.setRow b d:=by
 unfold World.setRow
 simp only [World.mk.injEq,and_true,true_and]
 apply Array.ext
 ·simp
 ·intro i h1 h2
  simp only [Array.getElem_modify]
  by_cases e:b=i
  ·simp only [e,if_true]
   cases w.heap[i]'(by simpa using h1) <;> rfl
  ·simp [e]
def setsFrom (cur:Array Value):Nat->List Value->Array Value
 | _,[]=>cur
 | o,v :: r=>setsFrom (cur.setIfInBounds o v) (o+1) r
theorem yeg:∀ (vs:List Value) (o:Nat) (cur:Array Value) (k:Nat),o+vs.length<=cur.size->(setsFrom cur o vs)[k]? = if o<=k/\k < o+vs.length then vs[k-o]? else cur[k]?
 | [],o,cur,k,h=>by simp [setsFrom]; intro h1 h2; omega
 | v :: r,o,cur,k,h=>by
  simp only [setsFrom]
  rw [yeg r (o+1) _ k (by simp at h ⊢; omega)]
  simp only [zie] at h ⊢
  by_cases e:k=o
  ·subst e
   rw [if_neg (by omega),if_pos (by omega)]
   simp [show k < cur.size from by omega]
  ·by_cases e2:o+1<=k/\k < o+1+r.length
   ·rw [if_pos e2,if_pos (by omega),show k-o=(k-(o+1))+1 from by omega]
    simp
   ·rw [if_neg e2,if_neg (by omega),zkd (Ne.symm e)]
theorem ye2 {T:TypeId}(b:Nat):∀ (vs:List Value) (o:Nat) (w:World) (cur:Array Value),w.heap[b]? = some (.cells cur T (0,0))->w.setCells b o vs=w.setRow b (setsFrom cur o vs)
 | [],o,w,cur,h=>(setRow_self w b cur T (0,0) h).symm
 | v :: r,o,w,cur,h=>by
  have e1:=setCell_eq_setRow w b o _ _ _ v h
  have hb:(w.setCell ⟨b,o,none⟩ v).heap[b]? = some (.cells (cur.setIfInBounds o v) T (0,0)):=by rw [e1]; exact setRow_heap w _ _ _ _ _ h
  simp only [World.setCells,setsFrom]
  rw [ye2 b r (o+1) _ _ hb,e1,ynk]
theorem za8 {w:World}{b:Nat}{cs new:Array Value}{T:TypeId}(h:w.heap[b]? = some (.cells cs T (0,0)))(hn:new.size=cs.size):w.setCells b 0 new.toList=w.setRow b new:=by
 rw [ye2 b new.toList 0 w cs h]
 congr 1
 apply Array.ext_getElem?
 intro k
 rw [yeg _ _ _ _ (by simp; omega)]
 by_cases hk:k < new.size
 ·simp [hk]
 ·rw [if_neg (by simp; omega),zi6 (by omega),zi6 (by omega)]
theorem ynq {T n:Nat}(hT:Strct T n){φ ψ:Pr}(h:Shp n φ)(h':Shp n ψ):Stores T φ ψ:=fun ρ w o x y b u hφ hb hx hψ hop=>by
 obtain ⟨cs,rfl,hn,_⟩:=h u w hφ
 obtain ⟨new,hy,hn',h1⟩:=h' _ w hψ
 obtain ⟨⟨d,hu,hd⟩,hi⟩:=hT
 unfold execOp
 simp only [hop,hx,hy,Sem.run_bind,run_storeAt_mid (P:=Tryz.prog) w b 0 T new (yxf hb (by show cs.size=_; omega)) (by rw [hi,hn']) h1,Result.andThen_ok,Sem.run_pure]
 rw [za8 hb (by show _=cs.size; omega)]
 rfl
theorem ye3 {s:Bool}{p:Option Addr}{n c:Nat}{xs:List Nat}:Shp 2 (Zx s p n c xs):=fun u w ⟨e,_⟩=>⟨_,e,rfl,by simp [Value.oneCell']⟩
theorem yai {z:Int}{lo:Nat}:Shp 2 (ZN z lo):=fun u w ⟨r,c,e,_⟩=>⟨_,e,rfl,by simp [Value.oneCell']⟩
theorem yan {A:Int}{k:Nat}:Shp 2 (Zv A k):=fun u w ⟨s,p,n,c,xs,e,_⟩=>⟨_,e,rfl,by simp [Value.oneCell']⟩
theorem ya9:Shp 2 zI:=fun u w e=>⟨_,e,rfl,by simp [Value.oneCell']⟩
theorem yad:Strct 24 2:=⟨⟨_,Tryz.underlying24,rfl⟩,by kernel_rfl⟩
theorem cell0 {w:World}{b:Nat}{x y:Value}{T:TypeId}(h:w.heap[b]? = some (.cells #[x,y] T (0,0))):w.cell? ⟨b,0,none⟩=some x:=by simp [World.cell?,h]
theorem cell1 {w:World}{b:Nat}{x y:Value}{T:TypeId}(h:w.heap[b]? = some (.cells #[x,y] T (0,0))):w.cell? ⟨b,1,none⟩=some y:=by simp [World.cell?,h]
theorem yhy {φ:Pr}(h:Shp 2 φ){u:Value}{w:World}(hφ:φ u w):∃ x y,u=.agg #[x,y]:=by
 obtain ⟨cs,rfl,hn,_⟩:=h u w hφ
 obtain ⟨l⟩:=cs
 match l,hn with
 | [x,y],_=>exact ⟨x,y,rfl⟩
theorem yar (ρ:Operand->Value)(o:Oper)(w:World):(execOp ρ { o with op:=.alloc 24 }).run Tryz.prog w=.ok (.value (.pointer (some ⟨w.heap.size,0,none⟩))) (w.alloc (.cells (Value.agg #[.bool false,.slice none 0 0]).cells 24 (0,0))):=by
 unfold execOp
 go_simp
theorem yes {φ:Pr}(h:Shp 2 φ)(ρ:Operand->Value)(o:Oper)(x:Operand)(w:World)(hφ:φ (ρ x) w):(execOp ρ { o with op:=.box 24 x }).run Tryz.prog w=.ok (.value (.pointer (some ⟨w.heap.size,0,none⟩))) (w.alloc (.cells (ρ x).cells 24 (0,0))):=by
 obtain ⟨y,z,e⟩:=yhy h hφ
 clear hφ h
 rw [e]
 unfold execOp
 go_simp
theorem ym8 (ρ:Operand->Value)(o:Oper)(x:Operand)(w:World)(b f:Nat)(h:ρ x=.pointer (some ⟨b,f,none⟩)):(execOp ρ { o with op:=.fieldAddr 24 x 0 }).run Tryz.prog w=.ok (.value (.pointer (some ⟨b,f,none⟩))) w:=by
 unfold execOp
 go_simp
theorem ydm (ρ:Operand->Value)(o:Oper)(x:Operand)(w:World)(b f:Nat)(h:ρ x=.pointer (some ⟨b,f,none⟩)):(execOp ρ { o with op:=.fieldAddr 24 x 1 }).run Tryz.prog w=.ok (.value (.pointer (some ⟨b,f+1,none⟩))) w:=by
 unfold execOp
 go_simp
theorem ynb {φ χ:Pr}(h:∀ u w,φ u w->∃ s y,u=.agg #[.bool s,y]/\χ (.bool s) w)(ρ:Operand->Value)(o:Oper)(x:Operand)(w:World)(b:Nat)(u:Value)(hφ:φ u w)(hx:ρ x=.pointer (some ⟨b,0,none⟩))(hb:w.heap[b]? = some (.cells u.cells 24 (0,0))):
  ∃ v,(execOp ρ { o with op:=.load 4 x }).run Tryz.prog w=.ok (.value v) w/\∀ w',φ u w'->χ v w':=by
 obtain ⟨s,y,rfl,_⟩:=h u w hφ
 have c0:=cell0 hb
 refine ⟨.bool s,?_,fun w' h'=>?_⟩
 ·clear hφ h hb
  unfold execOp
  go_simp
 ·obtain ⟨s',y',e,hs⟩:=h _ w' h'
  simp at e
  rw [e.1]; exact hs
theorem ydn {φ χ:Pr}(h:∀ u w,φ u w->∃ y p n c,u=.agg #[y,.slice p n c]/\χ (.slice p n c) w)(ρ:Operand->Value)(o:Oper)(x:Operand)(w:World)(b:Nat)(u:Value)(hφ:φ u w)(hx:ρ x=.pointer (some ⟨b,1,none⟩))(hb:w.heap[b]? = some (.cells u.cells 24 (0,0))):
  ∃ v,(execOp ρ { o with op:=.load 22 x }).run Tryz.prog w=.ok (.value v) w/\∀ w',φ u w'->χ v w':=by
 obtain ⟨y,p,n,c,rfl,_⟩:=h u w hφ
 have c1:=cell1 hb
 refine ⟨.slice p n c,?_,fun w' h'=>?_⟩
 ·clear hφ h hb
  unfold execOp
  go_simp
 ·obtain ⟨y',p',n',c',e,hs⟩:=h _ w' h'
  simp at e
  rw [e.2.1,e.2.2.1,e.2.2.2]; exact hs
theorem yzh {s:Bool}{p:Option Addr}{n c:Nat}{xs:List Nat}:∀ u w,Zx s p n c xs u w->∃ s' y,u=.agg #[.bool s',y]/\Is (.bool s) (.bool s') w:=fun u w ⟨e,_⟩=>⟨s,_,e,rfl⟩
theorem yjy {s:Bool}{p:Option Addr}{n c:Nat}{xs:List Nat}:∀ u w,Zx s p n c xs u w->∃ y p' n' c',u=.agg #[y,.slice p' n' c']/\Nx p n c xs (.slice p' n' c') w:=fun u w ⟨e,h⟩=>⟨_,p,n,c,e,rfl,h⟩
theorem yqm {z:Int}{lo:Nat}:∀ u w,ZN z lo u w->∃ y p' n' c',u=.agg #[y,.slice p' n' c']/\NN z.natAbs lo (.slice p' n' c') w:=fun u w ⟨r,c,e,hs,hf⟩=>⟨_,_,_,_,e,r,c,rfl,hs,hf⟩
theorem ye6 {w w':World}{r:Option Addr}{cr:Nat}{z:Int}(Z:Za w w' r cr z):Gives (ZN z) w (.returned (.agg #[.bool (ng z),.slice r (digs z.natAbs).length cr])) w':=
 ⟨_,rfl,Z.below,r,cr,rfl,Z.sl,Z.fresh⟩
section
variable {ops:Array Oper} {l:List Kd} {bx:Bxs} {sl:List (Tmp × Pr)} {i:Nat} {o:Oper} {Q:Exit->Act->World->Prop} {a0:Act} {n:Nat} {w0:World}
theorem loA {T:TypeId}{t m:Nat}{φ:Pr}(k:Nat)(hw:Wants ops l bx sl i o)(hT:Strct T m)(h:Shp m φ)(ho:ops[i]? = some o:=by exact rfl)(hop:o.op=.load T (.tmp t):=by exact rfl)(hb:bx[k]? = some (t,.box T φ):=by exact rfl)(hn:(unturned ops l i (.inl t) && slotFree ops i t)=true:=by kernel_rfl)(hk:kdAt l i=.val φ:=by exact rfl):Owed Tryz.prog ops Q l bx sl a0 n w0 i:=ywv ho hw hop hb hn (ywj hT h) hk
theorem puA {T:TypeId}{t m:Nat}{y:Operand}{φ ψ:Pr}(j:Nat)(hw:Wants ops l bx sl i o)(hy:Opnd ops l bx sl i y ψ)(hT:Strct T m)(h:Shp m φ)(h':Shp m ψ)(ho:ops[i]? = some o:=by exact rfl)(hop:o.op=.store T (.tmp t) y:=by exact rfl)(hj:((depsOf ops i).contains j && (dstOf ops j == some t) && unturned ops l i (.inr j))=true:=by kernel_rfl)(hkj:(kdAt l j).rk=some (.box T φ):=by exact rfl)(hk:kdAt l i=.put (.inr j) (.box T ψ):=by exact rfl):Owed Tryz.prog ops Q l bx sl a0 n w0 i:=zan j ho hw hop hj hkj hy (ynq hT h h') hk
theorem seA {T:TypeId}{t m:Nat}{y:Operand}{φ ψ:Pr}(k:Nat)(hw:Wants ops l bx sl i o)(hy:Opnd ops l bx sl i y ψ)(hT:Strct T m)(h:Shp m φ)(h':Shp m ψ)(ho:ops[i]? = some o:=by exact rfl)(hop:o.op=.store T (.tmp t) y:=by exact rfl)(hb:bx[k]? = some (t,.box T φ):=by exact rfl)(hn:(unturned ops l i (.inl t) && slotFree ops i t)=true:=by kernel_rfl)(hk:kdAt l i=.put (.inl t) (.box T ψ):=by exact rfl):Owed Tryz.prog ops Q l bx sl a0 n w0 i:=zap ho hw hop hb hn hy (ynq hT h h') hk
end
end Go.Proofs.YtdnindaohpdblaaGreat
