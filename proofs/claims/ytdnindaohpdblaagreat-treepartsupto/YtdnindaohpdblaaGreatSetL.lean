import Derived.Test.YtdnindaohpdblaaGreatSetA
import Derived.Lib.SmallJoins
import Derived.Deep.SlicePairs
set_option linter.all false
namespace Go.Proofs.YtdnindaohpdblaaGreat
open Go.ChangeShapes Go.WideShapes Go.ChangeAt Go.RowKit Nt
set_option maxRecDepth 20000
set_option maxHeartbeats 16000000
theorem yiv {H:Type}{enc:TypeId × Value->H}{W:World}{v:Value}{y:DataW H × List MemPlace}{fuel:Nat}
  (hf:DataW.trod enc Tryz.prog W 0 (fun _=>true) true fuel 22 [v]=some y):
  ∃ a n c xs,v=.slice a n c/\Sl W a n c xs/\Reads y.1 c:=by
 rcases open_ints Tryz.underlying22 Tryz.underlying64 (by kernel_rfl) hf with ⟨hcs,hx⟩ | ⟨x,l,c',zs,hcs,_,hl,hm,hz,hx,hcell,hwz⟩
 ·simp at hcs
  subst hcs
  exact ⟨_,_,_,[],rfl,Sl.none W,Or.inl ⟨by rw [hx],rfl⟩⟩
 ·simp at hcs
  subst hcs
  simp only [if_true] at hz
  have hlz:(zs.take l).length=l:=by simp; omega
  have hwf:∀ z ∈ zs,0<=z/\z < 4294967296:=by
   intro z hzm
   have:=hwz z hzm
   have:=bounds_u32 this
   omega
  have hget:∀ i,i < l->((((zs.take l).map Int.toNat).getD i 0:Nat):Int)=zs.getD i 0:=by
   intro i hi
   have h1:i < zs.length:=by omega
   have h2:=hwf zs[i] (List.getElem_mem h1)
   simp [zhc,zjc,hi,h1]
   omega
  refine ⟨_,_,_,(zs.take l).map Int.toNat,rfl,⟨by simp; omega,hl,hm,(fun e=>by cases e),?_,?_⟩,Or.inr ⟨_,_,by rw [hx],?_⟩⟩
  ·intro y hy
   obtain ⟨z,hz1,rfl⟩:=zko.1 hy
   have:=hwf z (zkv hz1)
   omega
  ·intro i hi
   have hi':i < l:=by simp at hi; omega
   have h0:=hcell 0 (by omega)
   have hs:=ygg h0
   obtain ⟨b,o,sp⟩:=x
   simp [Addr.add] at hs
   subst hs
   refine ⟨b,o,rfl,?_⟩
   have:=hcell i (by omega)
   rw [hget i hi',← this]
   rw [yc5]
  ·simp [lits]; omega
structure El where
 s:Bool
 p:Option Addr
 n:Nat
 c:Nat
 xs:List Nat
instance:Inhabited El:=⟨⟨false,none,0,0,[]⟩⟩
structure Ls (w:World) (p:Option Addr) (n c:Nat) (es:List El):Prop where
 len:es.length=n
 cap:n<=c
 max:c<=maxLen
 nil:p=none->c=0
 lie:∀ i e,es[i]? = some e->∃ b o,p=some ⟨b,o,none⟩/\w.cell? ⟨b,o+2*i,none⟩=some (.bool e.s)/\w.cell? ⟨b,o+2*i+1,none⟩=some (.slice e.p e.n e.c)/\Sl w e.p e.n e.c e.xs
theorem Ls.none (w:World):Ls w none 0 0 []:=⟨rfl,zha _,zhs _,fun _=>rfl,fun i e h=>by simp at h⟩
def ReadsL {H:Type}(d:DataW H)(c:Nat)(es:List El):Prop:=
 (d=.nil/\c=0)\/∃ ds sp:List (DataW H),d=.slice ds sp/\c=ds.length+sp.length/\∀ (i:Nat) (e:El),es[i]? = some e->∃ d1,ds[i]? = some (DataW.agg [.lit (.bool e.s),d1])/\Reads d1 e.c
theorem yvs {H:Type}{enc:TypeId × Value->H}{W:World}{v:Value}{d:DataW H}{p:List MemPlace}{base:Nat}
  (hval:Value.okWide Tryz.prog W .any base 35 v) (h:DataW.Trod enc Tryz.prog W 0 (fun _=>true) true 35 v d p):
  ∃ a n c es,v=.slice a n c/\Ls W a n c es/\ReadsL d c es:=by
 obtain ⟨a,n,c,rfl⟩:=okWide_slice Tryz.underlying35 hval
 obtain ⟨fuel,hf⟩:=h
 rcases Go.Deep.open_slice_pairs Tryz.underlying35 Tryz.underlying24 (by kernel_rfl) rfl rfl (by kernel_rfl) (by kernel_rfl) hf with ⟨hcs,hx⟩ | ⟨x,l,c',m,k,V0,V1,D0,D1,P0,P1,hcs,_,hl,hm,hmm,hx,hall⟩
 ·simp [Value.cells] at hcs
  obtain ⟨rfl,rfl,rfl⟩:=hcs
  simp only [Prod.mk.injEq] at hx
  exact ⟨_,_,_,[],rfl,Ls.none W,Or.inl ⟨hx.1,rfl⟩⟩
 ·simp [Value.cells] at hcs
  obtain ⟨rfl,rfl,rfl⟩:=hcs
  simp only [Prod.mk.injEq] at hx
  simp only [if_true] at hmm
  subst hmm
  have each:∀ i,∃ e:El,i < m->W.cell? (x.add (i*2))=some (.bool e.s)/\W.cell? (x.add (i*2+1))=some (.slice e.p e.n e.c)/\Sl W e.p e.n e.c e.xs/\D0 i=.lit (.bool e.s)/\Reads (D1 i) e.c:=by
   intro i
   by_cases hi:i < m
   ·obtain ⟨h1,h2,h3,h4⟩:=hall i hi
    obtain ⟨b,hb,e0⟩:=DataW.trod_bool Tryz.underlying4 h3
    simp at hb
    obtain ⟨a',n',c'',xs',e1,hs,hr⟩:=yiv h4
    refine ⟨⟨b,a',n',c'',xs'⟩,fun _=>⟨by rw [h1,hb],by rw [h2,e1],hs,?_,hr⟩⟩
    have:=congrArg Prod.fst e0
    simpa using this
   ·exact ⟨default,fun h=>absurd h hi⟩
  have hch:=fun i=>zja (each i)
  generalize hE:(fun i=>Classical.choose (each i))=E at hch
  have hch':∀ i,i < m->W.cell? (x.add (i*2))=some (.bool (E i).s)/\W.cell? (x.add (i*2+1))=some (.slice (E i).p (E i).n (E i).c)/\Sl W (E i).p (E i).n (E i).c (E i).xs/\D0 i=.lit (.bool (E i).s)/\Reads (D1 i) (E i).c:=by
   subst hE
   exact hch
  refine ⟨_,_,_,(List.range n).map E,rfl,⟨by simp,hl,hm,(fun e=>by cases e),?_⟩,Or.inr ⟨_,_,hx.1,by simp; omega,?_⟩⟩
  ·intro i e he
   have hi:i < n:=by
    have:=(zhh.1 he).1
    simpa using this
   have he':e=E i:=by
    rw [zhi,zh5 hi] at he
    simpa using he.symm
   subst he'
   obtain ⟨h1,h2,h3,_,_⟩:=hch' i (by omega)
   have hs:=ygg (hch' 0 (by omega)).1
   obtain ⟨b,o,sp⟩:=x
   simp [Addr.add] at hs
   subst hs
   refine ⟨b,o,rfl,?_,?_,h3⟩
   ·rw [← h1,yc5,zhd]
   ·rw [← h2,yc5,zhd i 2]
    rfl
  ·intro i e he
   have hi:i < n:=by
    have:=(zhh.1 he).1
    simpa using this
   have he':e=E i:=by
    rw [zhi,zh5 hi] at he
    simpa using he.symm
   subst he'
   obtain ⟨_,_,_,h4,h5⟩:=hch' i (by omega)
   exact ⟨D1 i,by rw [zhi,zh5 hi,← h4]; rfl,h5⟩
theorem yhc {H:Type}{enc:TypeId × Value->H}{W:World}{v0 v1:Value}{y:DataW H × List MemPlace}{fuel:Nat}
  (hf:DataW.trod enc Tryz.prog W 0 (fun _=>true) true fuel 24 [v0,v1]=some y):
  ∃ s a n c xs d1,v0=.bool s/\v1=.slice a n c/\Sl W a n c xs/\y.1=.agg [.lit (.bool s),d1]/\Reads d1 c:=by
 obtain ⟨y0,y1,k,hx,_,h0,h1⟩:=trod_struct2 Tryz.underlying24 hf
 have c0:Tryz.prog.cellsOf 4=1:=by kernel_rfl
 have c1:Tryz.prog.cellsOf 22=1:=by kernel_rfl
 simp only [c0,c1,zka,zkg,zkx,zkh] at h0 h1
 obtain ⟨b,hb,rfl⟩:=DataW.trod_bool Tryz.underlying4 h0
 simp at hb
 subst hb
 obtain ⟨a,n,c,xs,rfl,hs,hr⟩:=yiv h1
 exact ⟨b,a,n,c,xs,y1.1,rfl,rfl,hs,by rw [hx],hr⟩
end Go.Proofs.YtdnindaohpdblaaGreat
