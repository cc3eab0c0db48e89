import Derived.Test.YtdnindaohpdblaaGreatFnA
import Derived.Deep.Strs
set_option linter.all false
namespace Go.Proofs.YtdnindaohpdblaaGreat
open Go Go.RowKit Nt
set_option maxRecDepth 20000
set_option maxHeartbeats 16000000
section
variable {ops:Array Oper} {l:List Kd} {bx:Bxs} {sl:List (Tmp × Pr)} {i:Nat} {o:Oper} {Q:Exit->Act->World->Prop} {a0:Act} {n0:Nat} {w0:World}
end

theorem zd4 {a b:Pr}(_:Shp 2 a)(_:Shp 2 b):∀ u w,u.cells.size=4->PR a b u w->∃ p,(∀ (j:Nat) y,p.cells[j]? = some y->u.cells[0+j]? = some y)/\p.cells.size=2/\a p w:=by
 rintro u w _ ⟨x0,x1,y0,y1,rfl,h1,h2⟩
 refine ⟨_,fun j y hy=>?_,rfl,h1⟩
 match j,hy with
 | 0,hy=>exact hy
 | 1,hy=>exact hy
 | j+2,hy=>simp [Value.cells] at hy
theorem zd5 {a b:Pr}(_:Shp 2 a)(_:Shp 2 b):∀ u w,u.cells.size=4->PR a b u w->∃ p,(∀ (j:Nat) y,p.cells[j]? = some y->u.cells[2+j]? = some y)/\p.cells.size=2/\b p w:=by
 rintro u w _ ⟨x0,x1,y0,y1,rfl,h1,h2⟩
 refine ⟨_,fun j y hy=>?_,rfl,h2⟩
 match j,hy with
 | 0,hy=>exact hy
 | 1,hy=>exact hy
 | j+2,hy=>simp [Value.cells] at hy
structure LS where
 k:Nat
 p:Option Addr
 c:Nat
end Go.Proofs.YtdnindaohpdblaaGreat

namespace Go.Proofs.YtdnindaohpdblaaGreat
open Go.ChangeShapes Go.WideShapes Go.ChangeAt Go.RowKit Nt
set_option maxRecDepth 20000
set_option maxHeartbeats 16000000
theorem yqr {H:Type}{enc:TypeId × Value->H}{W:World}{v:Value}{y:DataW H × List MemPlace}{fuel:Nat}
  (hf:DataW.trod enc Tryz.prog W 0 (fun _=>true) true fuel 36 [v]=some y):
  ∃ a n c rs,v=.slice a n c/\Ms W a n c rs/\ReadsM y.1 c rs:=by
 rcases Go.Deep.open_slice1 Tryz.underlying36 (by kernel_rfl) hf with ⟨hcs,hx⟩ | ⟨x,l,c',m,k,V,D,Pl,hcs,_,hl,hm,hmm,hx,hall⟩
 ·simp only [List.cons.injEq,and_true] at hcs
  subst hcs
  exact ⟨_,_,_,[],rfl,⟨rfl,zha _,zhs _,fun _=>rfl,fun i e h=>by simp at h⟩,Or.inl ⟨by rw [hx],rfl⟩⟩
 ·simp only [List.cons.injEq,and_true] at hcs
  subst hcs
  simp only [if_true] at hmm
  subst hmm
  have each:∀ i,∃ r:Rw,i < m->W.cell? (x.add i)=some (.slice r.p r.n r.c)/\Ls W r.p r.n r.c r.es/\ReadsL (D i) r.c r.es:=by
   intro i
   by_cases hi:i < m
   ·obtain ⟨h1,h2⟩:=hall i hi
    obtain ⟨a',n',c'',es',e1,hs,hr⟩:=yj4 h2
    exact ⟨⟨a',n',c'',es'⟩,fun _=>⟨by rw [h1,e1],hs,hr⟩⟩
   ·exact ⟨default,fun h=>absurd h hi⟩
  obtain ⟨E,hch'⟩:∃ E:Nat->Rw,∀ i,i < m->W.cell? (x.add i)=some (.slice (E i).p (E i).n (E i).c)/\Ls W (E i).p (E i).n (E i).c (E i).es/\ReadsL (D i) (E i).c (E i).es:=⟨fun i=>Classical.choose (each i),fun i=>zja (each i)⟩
  refine ⟨_,_,_,(List.range l).map E,rfl,⟨by simp,hl,hm,(fun e=>by cases e),?_⟩,Or.inr ⟨_,_,by rw [hx],by simp; omega,?_⟩⟩
  ·intro i e he
   obtain ⟨j,hj,rfl⟩:=ybs he
   have hi:i < l:=by simpa using (zhh.1 hj).1
   rw [zh5 hi] at hj
   cases hj
   obtain ⟨h1,h2,_⟩:=hch' i (by omega)
   have hs:=ygg (hch' 0 (by omega)).1
   obtain ⟨b,o,sp⟩:=x
   simp [Addr.add] at hs
   subst hs
   exact ⟨b,o,rfl,by rw [← h1,yc5],h2⟩
  ·intro i e he
   obtain ⟨j,hj,rfl⟩:=ybs he
   have hi:i < l:=by simpa using (zhh.1 hj).1
   rw [zh5 hi] at hj
   cases hj
   obtain ⟨_,_,h3⟩:=hch' i (by omega)
   exact ⟨D i,by rw [zhi,zh5 hi]; rfl,h3⟩
end Go.Proofs.YtdnindaohpdblaaGreat

namespace Go.Proofs.YtdnindaohpdblaaGreat
open Go Go.RowKit Nt
set_option maxRecDepth 20000
set_option maxHeartbeats 16000000
theorem yxb (l:List Nat)(k:Nat):(l.take k).sum<=l.sum:=by
 have h:(l.take k ++ l.drop k).sum=l.sum:=by rw [zix]
 rw [List.sum_append] at h
 omega
theorem yvi {D:List Int}{l:List Nat}(hl:l.length=D.length)(h:∀ i,i < D.length->(digs (D.getD i 0).natAbs).length<=l.getD i 0):∀ k,wtD D k<=(l.take k).sum
 | 0=>zhs _
 | k+1=>by
  have ih:=yvi hl h k
  simp only [wtD]
  rcases zi0 k D.length with hk | hk
  ·have h1:=h k hk
   rw [zke,zhj (by omega)]
   rw [zhc,zhc,zhj (show k < l.length by omega)] at h1
   rw [List.sum_append]
   rw [zhc]
   simp only [Option.getD_some,Option.toList_some,zjs,List.sum_nil] at h1 ⊢
   omega
  ·rw [zhc,zim hk]
   have e0:(digs ((none:Option Int).getD 0).natAbs).length=0:=by show (digs (0:Int).natAbs).length=0; rw [show (0:Int).natAbs=0 from rfl,yc8]; rfl
   rw [e0,zhg (by omega)]
   rw [zhg (by omega)] at ih
   omega
theorem ytq {es:List El}{i:Nat}{e:El}(h:es[i]? = some e):e.c+es.length<=(es.map (fun e=>e.c+1)).sum:=by
 induction es generalizing i with
 | nil=>simp at h
 | cons a r ih =>
  have hr:r.length<=(r.map (fun e=>e.c+1)).sum:=by
   clear ih h
   induction r with
   | nil=>simp
   | cons b s ih=>simp only [zje,zjs,zie]; omega
  cases i with
  | zero=>simp at h; subst h; simp only [zje,zjs,zie]; omega
  | succ i=>have:=ih (i:=i) (by simpa using h); simp only [zje,zjs,zie]; omega
theorem ys5 (es:List El):es.length<=(es.map (fun e=>e.c+1)).sum:=by
 induction es with
 | nil=>simp
 | cons b s ih=>simp only [zje,zjs,zie]; omega
theorem zfx {w:World}{p:Option Addr}{n c:Nat}{es:List El}(s:Ls w p n c es)(i:Nat)(hi:i < es.length):(digs ((es.map El.z).getD i 0).natAbs).length<=(es.map (fun e=>e.c+1)).getD i 0:=by
 obtain ⟨b,o,_,_,_,hs⟩:=s.lie i _ (zhj hi)
 have h1:=hs.dl
 have h2:=hs.cap
 rw [zhc,zhc,zhi,zhi,zhj hi]
 simp only [Option.map_some,Option.getD_some]
 rw [show (El.z es[i]).natAbs=val (es[i]).xs from sg_abs _ _]
 omega
end Go.Proofs.YtdnindaohpdblaaGreat

namespace Go.Proofs.YtdnindaohpdblaaGreat
open Go.ChangeShapes Go.WideShapes Go.ChangeAt Go.RowKit Nt
set_option maxRecDepth 20000
set_option maxHeartbeats 16000000
theorem yqq {H:Type}{enc:TypeId × Value->H}{W:World}{v:Value}{y:DataW H × List MemPlace}{fuel:Nat}
  (hf:DataW.trod enc Tryz.prog W 0 (fun _=>true) true fuel 39 [v]=some y):
  ∃ a n c rs,v=.slice a n c/\Qs W a n c rs/\ReadsQ y.1 c rs:=by
 rcases Go.Deep.open_slice Tryz.underlying39 hf with ⟨hcs,hx⟩ | ⟨x,l,c',m,k,D,Pl,hcs,_,hl,hm,hmm,hx,hall⟩
 ·simp only [List.cons.injEq,and_true] at hcs
  subst hcs
  exact ⟨_,_,_,[],rfl,⟨rfl,zha _,zhs _,fun _=>rfl,fun i e h=>by simp at h⟩,Or.inl ⟨by rw [hx],rfl⟩⟩
 ·simp only [List.cons.injEq,and_true] at hcs
  subst hcs
  simp only [if_true] at hmm
  subst hmm
  have c4:Tryz.prog.cellsOf 26=4:=by kernel_rfl
  have each:∀ i,∃ r:Ra,i < m->(W.cell? (x.add (i*4))=some (.bool r.x.s)/\W.cell? (x.add (i*4+1))=some (.slice r.x.p r.x.n r.x.c)/\W.cell? (x.add (i*4+2))=some (.bool r.y.s)/\W.cell? (x.add (i*4+3))=some (.slice r.y.p r.y.n r.y.c))/\Sl W r.x.p r.x.n r.x.c r.x.xs/\Sl W r.y.p r.y.n r.y.c r.y.xs/\∃ d1 d2,D i=.agg [.agg [.lit (.bool r.x.s),d1],.agg [.lit (.bool r.y.s),d2]]/\Reads d1 r.x.c/\Reads d2 r.y.c:=by
   intro i
   by_cases hi:i < m
   ·obtain ⟨cs,h1,h2⟩:=hall i hi
    rw [c4] at h1
    obtain ⟨_,hlen,hcell⟩:=World.cells?_some h1
    match cs,hlen with
    | [v0,v1,v2,v3],_ =>
     obtain ⟨y0,y1,k',hxx,_,g0,g1⟩:=trod_struct2 Tryz.underlying26 h2
     have c0:Tryz.prog.cellsOf 24=2:=by kernel_rfl
     simp only [c0,Value.cells,zka,zkg,zkx,zkh] at g0 g1
     obtain ⟨s,a,n',c,xs,d1,rfl,rfl,s1,e1,r1⟩:=yhc g0
     obtain ⟨t,b,m',e,ys,d2,rfl,rfl,s2,e2,r2⟩:=yhc g1
     simp only [Prod.mk.injEq] at hxx
     have e0:=hcell 0 (by omega)
     have e1':=hcell 1 (by omega)
     have e2':=hcell 2 (by omega)
     have e3':=hcell 3 (by omega)
     rw [Go.Deep.add_add] at e0 e1' e2' e3'
     exact ⟨⟨⟨s,a,n',c,xs⟩,⟨t,b,m',e,ys⟩⟩,fun _=>⟨⟨by simpa using e0,by simpa using e1',by simpa using e2',by simpa using e3'⟩,s1,s2,d1,d2,by rw [hxx.1,e1,e2],r1,r2⟩⟩
   ·exact ⟨default,fun h=>absurd h hi⟩
  obtain ⟨E,hch⟩:∃ E:Nat->Ra,∀ i,i < m->(W.cell? (x.add (i*4))=some (.bool (E i).x.s)/\W.cell? (x.add (i*4+1))=some (.slice (E i).x.p (E i).x.n (E i).x.c)/\W.cell? (x.add (i*4+2))=some (.bool (E i).y.s)/\W.cell? (x.add (i*4+3))=some (.slice (E i).y.p (E i).y.n (E i).y.c))/\Sl W (E i).x.p (E i).x.n (E i).x.c (E i).x.xs/\Sl W (E i).y.p (E i).y.n (E i).y.c (E i).y.xs/\∃ d1 d2,D i=.agg [.agg [.lit (.bool (E i).x.s),d1],.agg [.lit (.bool (E i).y.s),d2]]/\Reads d1 (E i).x.c/\Reads d2 (E i).y.c:=⟨fun i=>Classical.choose (each i),fun i=>zja (each i)⟩
  refine ⟨_,_,_,(List.range l).map E,rfl,⟨by simp,hl,hm,(fun e=>by cases e),?_⟩,Or.inr ⟨_,_,by rw [hx],by simp; omega,?_⟩⟩
  ·intro i e he
   obtain ⟨j,hj,rfl⟩:=ybs he
   have hi:i < l:=by simpa using (zhh.1 hj).1
   rw [zh5 hi] at hj
   cases hj
   obtain ⟨⟨h1,h2,h3,h4⟩,h5,h6,_⟩:=hch i (by omega)
   have hs:=ygg (hch 0 (by omega)).1.1
   obtain ⟨b,o,sp⟩:=x
   simp [Addr.add] at hs
   subst hs
   refine ⟨b,o,rfl,⟨?_,?_,?_,?_⟩,h5,h6⟩
   ·rw [← h1,yc5,zhd]
   ·rw [← h2,yc5,zhd i 4]; rfl
   ·rw [← h3,yc5,zhd i 4]; rfl
   ·rw [← h4,yc5,zhd i 4]; rfl
  ·intro i e he
   obtain ⟨j,hj,rfl⟩:=ybs he
   have hi:i < l:=by simpa using (zhh.1 hj).1
   rw [zh5 hi] at hj
   cases hj
   obtain ⟨_,_,_,d1,d2,h3,h4,h5⟩:=hch i (by omega)
   exact ⟨d1,d2,by rw [zhi,zh5 hi,← h3]; rfl,h4,h5⟩
theorem array7 (T:Array Value)(h:T.size=7):∃ v0 v1 v2 v3 v4 v5 v6:Value,T=#[v0,v1,v2,v3,v4,v5,v6]:=by
 obtain ⟨l⟩:=T
 simp at h
 match l,h with
 | [a,b,c,d,e,f,g],_=>exact ⟨a,b,c,d,e,f,g,rfl⟩
theorem yvt {H:Type}{enc:TypeId × Value->H}{W:World}{v:Value}{d:DataW H}{p:List MemPlace}{base:Nat}
  (hval:Value.okWide Tryz.prog W .any base 41 v) (h:DataW.Trod enc Tryz.prog W 0 (fun _=>true) true 41 v d p):
  ∃ a n c es b m e rs a1 n1 c1 rq s a3 n3 c3 xs t b3 m3 d3 ys dD dL dT dx dy,v=.agg #[.slice a n c,.slice b m e,.slice a1 n1 c1,.bool s,.slice a3 n3 c3,.bool t,.slice b3 m3 d3]/\Ls W a n c es/\Ms W b m e rs/\Qs W a1 n1 c1 rq/\Sl W a3 n3 c3 xs/\Sl W b3 m3 d3 ys ∧
   d=.agg [.agg [dD,dL],dT,.agg [.agg [.lit (.bool s),dx],.agg [.lit (.bool t),dy]]]/\ReadsL dD c es/\ReadsM dL e rs/\ReadsQ dT c1 rq/\Reads dx c3/\Reads dy d3:=by
 obtain ⟨cs,rfl,hsz⟩:=okWide_struct Tryz.underlying41 hval
 obtain ⟨w0,w1,w2,w3,w4,w5,w6,rfl⟩:=array7 cs (hsz.trans (show Tryz.prog.cellsOf 41=7 by kernel_rfl))
 obtain ⟨fuel,hf⟩:=h
 obtain ⟨y0,y1,y2,k,hx,_,h0,h1,h2⟩:=Go.Deep.trod_struct3 Tryz.underlying41 hf
 have c0:Tryz.prog.cellsOf 38=2:=by kernel_rfl
 have c1:Tryz.prog.cellsOf 39=1:=by kernel_rfl
 have c2:Tryz.prog.cellsOf 26=4:=by kernel_rfl
 simp only [c0,c1,c2,Value.cells,zka,zkg,zkx,zkh] at h0 h1 h2
 obtain ⟨a1,n1,c1',rq,rfl,sq,rq'⟩:=yqq h1
 obtain ⟨g0,g1,k0,hg,_,p0,p1⟩:=trod_struct2 Tryz.underlying38 h0
 have c3:Tryz.prog.cellsOf 35=1:=by kernel_rfl
 have c4:Tryz.prog.cellsOf 36=1:=by kernel_rfl
 simp only [c3,c4,zka,zkg,zkx,zkh] at p0 p1
 obtain ⟨a,n,c,es,rfl,s1,r1⟩:=yj4 p0
 obtain ⟨b,m,e,rs,rfl,s2,r2⟩:=yqr p1
 obtain ⟨i0,i1,k1,hi,_,j0,j1⟩:=trod_struct2 Tryz.underlying26 h2
 have c5:Tryz.prog.cellsOf 24=2:=by kernel_rfl
 simp only [c5,zka,zkg,zkx,zkh] at j0 j1
 obtain ⟨s,a3,n3,c3',xs,dx,rfl,rfl,s3,e3,r3⟩:=yhc j0
 obtain ⟨t,b3,m3,d3,ys,dy,rfl,rfl,s4,e4,r4⟩:=yhc j1
 simp only [Prod.mk.injEq] at hx
 exact ⟨a,n,c,es,b,m,e,rs,a1,n1,c1',rq,s,a3,n3,c3',xs,t,b3,m3,d3,ys,g0.1,g1.1,y1.1,dx,dy,rfl,s1,s2,sq,s3,s4,by rw [hx.1,hg,hi]; simp only [e3,e4],r1,r2,rq',r3,r4⟩
end Go.Proofs.YtdnindaohpdblaaGreat
