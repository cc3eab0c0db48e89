import Derived.Test.YtdnindaohpdblaaGreatSetE
import Derived.Test.YtdnindaohpdblaaGreatSetB
set_option linter.all false
namespace Go.Proofs.YtdnindaohpdblaaGreat
open Go.RowKit Nt
set_option maxRecDepth 20000
set_option maxHeartbeats 16000000
structure Nm (b:Bool) (L:Nat) (D:List Nat) (z:Int):Prop where
 sgn:b=ng z
 dgs:D=digs z.natAbs
 len:D.length=L
theorem Nm.sg {b:Bool}{L:Nat}{D:List Nat}{z:Int}(h:Nm b L D z):Go.Proofs.YtdnindaohpdblaaGreat.sg b (val D)=z:=by rw [h.sgn,h.dgs,yaf,yh1]
theorem Nm.mk' (z:Int):Nm (ng z) (digs z.natAbs).length (digs z.natAbs) z:=⟨rfl,rfl,rfl⟩
theorem yzc (w:World)(s t:Bool)(p q:Option Addr)(n c m d:Nat)(xs ys:List Nat)(A B:Int)(eA:sg s (val xs)=A)(eB:sg t (val ys)=B)(h:Sl w p n c xs)(h':Sl w q m d ys)(hs:n+m<=70368744177664):
  Calls Tryz.prog 71 #[.agg #[.bool s,.slice p n c],.agg #[.bool t,.slice q m d]] w fun e w'=>∃ b L D r cr,e=.returned (.agg #[.bool b,.slice r L cr])/\Below w.heap.size w w'/\Hid (Sl w' r L cr D)/\Hid (Nm b L D (A*B))/\L<=n+m:=by
 refine (yzb w s t p q n c m d xs ys h h' hs).mono ?_
 rintro e w' ⟨r,cr,rfl,Z⟩
 subst eA eB
 refine ⟨_,_,_,r,cr,rfl,Z.below,Z.sl,Nm.mk' _,?_⟩
 rw [zh3,sg_abs,sg_abs]
 exact yaq h.dl h'.dl
def fl (A B:Int):Int:=if 0 < B then A / B else (-A) / (-B)
def rm (A B:Int):Int:=A-fl A B*B
theorem yf9 {A B q r:Int}(hB:B≠0)(e:A=q*B+r)(h1:0 < B->0<=r/\r < B)(h2:B < 0->B < r/\r<=0):fl A B=q/\rm A B=r:=by
 have key:fl A B=q:=by
  unfold fl
  by_cases hp:0 < B
  ·rw [if_pos hp]
   have:=h1 hp
   exact ((Int.ediv_emod_unique hp).2 ⟨by rw [zjb]; omega,this.1,this.2⟩).1
  ·rw [if_neg hp]
   have hn:B < 0:=by omega
   have:=h2 hn
   refine ((Int.ediv_emod_unique (r:=-r) (by omega)).2 ⟨?_,by omega,by omega⟩).1
   rw [zjb,zk3]
   omega
 refine ⟨key,?_⟩
 unfold rm
 rw [key]
 omega
theorem yfu (s t:Bool)(x y:Nat)(hy:y≠0)(h:s=t\/x % y=0):fl (sg s x) (sg t y)=sg (s != t) (x / y)/\rm (sg s x) (sg t y)=sg t (x % y):=by
 have hlt:=zic x (zhw hy)
 have e:((y*(x / y)+x % y:Nat):Int)=(x:Int):=by rw [zh9]
 rw [zjx,zho] at e
 obtain ⟨q,hq⟩:∃ q,x / y=q:=⟨_,rfl⟩
 obtain ⟨r,hr⟩:∃ r,x % y=r:=⟨_,rfl⟩
 rw [hq,hr] at e ⊢
 rw [hr] at hlt h
 rw [zjb] at e
 refine yf9 ?_ ?_ ?_ ?_
 ·cases t <;> simp [sg] <;> omega
 ·cases s <;> cases t <;> simp [sg,zk8,zk3] at * <;> omega
 ·cases t <;> simp [sg] <;> omega
 ·cases t <;> simp [sg] <;> omega
theorem ypd (s t:Bool)(x y:Nat)(hy:y≠0)(h:s≠t)(h0:x % y≠0):fl (sg s x) (sg t y)=sg (s != t) (x / y+1)/\rm (sg s x) (sg t y)=sg t (y-x % y):=by
 have hlt:=zic x (zhw hy)
 have e:((y*(x / y)+x % y:Nat):Int)=(x:Int):=by rw [zh9]
 rw [zjx,zho] at e
 obtain ⟨q,hq⟩:∃ q,x / y=q:=⟨_,rfl⟩
 obtain ⟨r,hr⟩:∃ r,x % y=r:=⟨_,rfl⟩
 rw [hq,hr] at e ⊢
 rw [hr] at hlt h0
 rw [zjb] at e
 have e2:((y-r:Nat):Int)=(y:Int)-r:=by omega
 refine yf9 ?_ ?_ ?_ ?_
 ·cases t <;> simp [sg] <;> omega
 ·cases s <;> cases t <;> simp [sg,zk8,zk3,Int.add_mul,e2] at * <;> omega
 ·cases t <;> simp [sg,e2] <;> omega
 ·cases t <;> simp [sg,e2] <;> omega
theorem boxFar {w:World}{b b' n c:Nat}{neg:Bool}{p:Option Addr}{v0 v1:Value}(h:Box w b neg p n c)(hb:b≠b'):Box ((w.setCell ⟨b',0,none⟩ v0).setCell ⟨b',1,none⟩ v1) b neg p n c:=by
 show _=_
 rw [Below.heap_setCell _ _ _ _ (by simpa using hb),Below.heap_setCell _ _ _ _ (by simpa using hb)]
 exact h
structure Inv2 (w w':World) (g2 g3:Nat):Prop where
 below:Below w.heap.size w w'
 box2:∃ b r n c,Box w' g2 b r n c
 box3:∃ b r n c,Box w' g3 b r n c
 fresh:w.heap.size<=g2
 next:g2 < g3
theorem Inv2.drew {w w':World}{g2 g3:Nat}(h:Inv2 w w' g2 g3):Inv2 w w'.drew g2 g3:=⟨h.below.drew,h.box2,h.box3,h.fresh,h.next⟩
theorem Inv2.call {w w' w'':World}{g2 g3:Nat}(h:Inv2 w w' g2 g3)(hb:Below w'.heap.size w' w''):Inv2 w w'' g2 g3:=by
 obtain ⟨b,r,n,c,hx⟩:=h.box2
 obtain ⟨b',r',n',c',hx'⟩:=h.box3
 exact ⟨h.below.trans (hb.mono h.below.size),⟨b,r,n,c,hx.below hb⟩,⟨b',r',n',c',hx'.below hb⟩,h.fresh,h.next⟩
theorem Inv2.lt {w w':World}{g2 g3:Nat}(h:Inv2 w w' g2 g3):g3 < w'.heap.size:=by
 obtain ⟨b',r',n',c',hx'⟩:=h.box3
 exact hx'.lt
theorem Inv2.set2 {w w':World}{g2 g3:Nat}(h:Inv2 w w' g2 g3)(b:Bool)(r:Option Addr)(n c:Nat):Inv2 w ((w'.setCell ⟨g2,0,none⟩ (.bool b)).setCell ⟨g2,1,none⟩ (.slice r n c)) g2 g3:=by
 obtain ⟨b0,r0,n0,c0,hx⟩:=h.box2
 obtain ⟨b',r',n',c',hx'⟩:=h.box3
 exact ⟨(h.below.setCell h.fresh _).setCell h.fresh _,⟨_,_,_,_,hx.set b r n c⟩,⟨_,_,_,_,boxFar hx' (by have:=h.next; omega)⟩,h.fresh,h.next⟩
theorem Inv2.set3 {w w':World}{g2 g3:Nat}(h:Inv2 w w' g2 g3)(b:Bool)(r:Option Addr)(n c:Nat):Inv2 w ((w'.setCell ⟨g3,0,none⟩ (.bool b)).setCell ⟨g3,1,none⟩ (.slice r n c)) g2 g3:=by
 obtain ⟨b0,r0,n0,c0,hx⟩:=h.box2
 obtain ⟨b',r',n',c',hx'⟩:=h.box3
 have h3:w.heap.size<=g3:=zhb h.fresh (zi4 h.next)
 exact ⟨(h.below.setCell h3 _).setCell h3 _,⟨_,_,_,_,boxFar hx (by have:=h.next; omega)⟩,⟨_,_,_,_,hx'.set b r n c⟩,h.fresh,h.next⟩
theorem enter22 (w:World)(s:Bool)(p:Option Addr)(n c:Nat)(t:Bool)(q:Option Addr)(m d:Nat):
  ∃ W g,w.heap.size=g/\(((w.alloc (.cells #[.bool s,.slice p n c] 24)).alloc (.cells #[.bool t,.slice q m d] 24)).alloc (.cells #[.bool false,.slice none 0 0] 24)).alloc (.cells #[.bool false,.slice none 0 0] 24)=W ∧
   W.cell? ⟨g,0,none⟩=some (.bool s)/\W.cell? ⟨g,1,none⟩=some (.slice p n c)/\W.cell? ⟨g+1,0,none⟩=some (.bool t)/\W.cell? ⟨g+1,1,none⟩=some (.slice q m d)/\Hid (Inv2 w W (g+1+1) (g+1+1+1)):=by
 obtain ⟨W,g,hg,hW,a1,a2,a3,a4,_,_,HI⟩:=enter2 w s p n c t q m d
 have B4:=yam W (.cells #[.bool false,.slice none 0 0] 24)
 have X4:=ybw W false none 0 0
 have hs:W.heap.size=g+1+1+1:=by rw [← hW]; simp; omega
 rw [hs] at X4
 obtain ⟨b,r,n',c',hx⟩:=HI.out.box
 exact ⟨_,g,hg,by rw [hW],yac a1 B4,yac a2 B4,yac a3 B4,yac a4 B4,HI.out.below.trans (B4.mono HI.out.below.size),⟨_,_,_,_,hx.below B4⟩,⟨_,_,_,_,X4⟩,HI.out.fresh,by omega⟩
theorem invF {A B:Prop}{w w':World}{g2 g3:Nat}(h:A/\B/\Hid (Inv2 w w' g2 g3)):Inv2 w w' g2 g3:=h.2.2
theorem keepF {w w1 w2:World}{a1 a2:Addr}{v1 v2:Value}{g2 g3:Nat}(h:w1.cell? a1=some v1/\w1.cell? a2=some v2/\Hid (Inv2 w w1 g2 g3))(hb:Below w1.heap.size w1 w2):
  w2.cell? a1=some v1/\w2.cell? a2=some v2/\Hid (Inv2 w w2 g2 g3):=⟨yac h.1 hb,yac h.2.1 hb,Inv2.call h.2.2 hb⟩
theorem keepF2 {w w1:World}{a1 a2:Addr}{v1 v2:Value}{g2 g3:Nat}{b:Bool}{r:Option Addr}{n c:Nat}(h:w1.cell? a1=some v1/\w1.cell? a2=some v2/\Hid (Inv2 w w1 g2 g3))(h1:g2≠a1.block)(h2:g2≠a2.block):
  ((w1.setCell ⟨g2,0,none⟩ (.bool b)).setCell ⟨g2,1,none⟩ (.slice r n c)).cell? a1=some v1/\((w1.setCell ⟨g2,0,none⟩ (.bool b)).setCell ⟨g2,1,none⟩ (.slice r n c)).cell? a2=some v2/\Hid (Inv2 w ((w1.setCell ⟨g2,0,none⟩ (.bool b)).setCell ⟨g2,1,none⟩ (.slice r n c)) g2 g3):=
 ⟨far h.1 h1,far h.2.1 h2,Inv2.set2 h.2.2 b r n c⟩
theorem keepF3 {w w1:World}{a1 a2:Addr}{v1 v2:Value}{g2 g3:Nat}{b:Bool}{r:Option Addr}{n c:Nat}(h:w1.cell? a1=some v1/\w1.cell? a2=some v2/\Hid (Inv2 w w1 g2 g3))(h1:g3≠a1.block)(h2:g3≠a2.block):
  ((w1.setCell ⟨g3,0,none⟩ (.bool b)).setCell ⟨g3,1,none⟩ (.slice r n c)).cell? a1=some v1/\((w1.setCell ⟨g3,0,none⟩ (.bool b)).setCell ⟨g3,1,none⟩ (.slice r n c)).cell? a2=some v2/\Hid (Inv2 w ((w1.setCell ⟨g3,0,none⟩ (.bool b)).setCell ⟨g3,1,none⟩ (.slice r n c)) g2 g3):=
 ⟨far h.1 h1,far h.2.1 h2,Inv2.set3 h.2.2 b r n c⟩
theorem yk5 {x y n:Nat}(h:(digs (x / y)).length<=n)(hx:(digs x).length<=n)(h0:x % y≠0):(digs (x / y+1)).length<=n+1:=by
 have h1:1<=n:=by
  apply Classical.byContradiction
  intro hc
  have:(digs x).length=0:=by omega
  have:=(ya2 x).1 this
  subst this
  simp at h0
 exact yc3 h (zhb (by rw [yfb (by omega) (by omega)]; simp) h1)
def Fl2 (w:World)(A B:Int)(k k':Nat)(e:Ending)(w':World):Prop:=∃ (bq:Bool) (Lq:Nat) (Dq:List Nat) (rq:Option Addr) (cq:Nat) (br:Bool) (Lr:Nat) (Dr:List Nat) (rr:Option Addr) (cr:Nat),
 e=.returned (.tuple #[.agg #[.bool bq,.slice rq Lq cq],.agg #[.bool br,.slice rr Lr cr],.int .i64 0])/\Below w.heap.size w w'/\Hid (Sl w' rq Lq cq Dq)/\Hid (Sl w' rr Lr cr Dr)/\Hid (Nm bq Lq Dq (fl A B))/\Hid (Nm br Lr Dr (rm A B))/\Lq<=k/\Lr<=k'/\Hid (∀ b o,rq=some ⟨b,o,none⟩->w.heap.size<=b)/\Hid (∀ b o,rr=some ⟨b,o,none⟩->w.heap.size<=b)
theorem yx5 {w:World}{A B:Int}{k k' q r:Nat}{sq sr:Bool}(hq:fl A B=sg sq q)(hr:rm A B=sg sr r)(lq:(digs q).length<=k)(lr:(digs r).length<=k'):
  ∀ (rq rr:Option Addr) (cq cr:Nat) (e:Ending) (w':World),e=.returned (.tuple #[.agg #[.bool (sq && decide (0 < (digs q).length)),.slice rq (digs q).length cq],.agg #[.bool (sr && decide (0 < (digs r).length)),.slice rr (digs r).length cr],.int .i64 0])->Below w.heap.size w w' →
   Sl w' rq (digs q).length cq (digs q)->Sl w' rr (digs r).length cr (digs r)->(∀ b o,rq=some ⟨b,o,none⟩->w.heap.size<=b)->(∀ b o,rr=some ⟨b,o,none⟩->w.heap.size<=b)->Fl2 w A B k k' e w':=by
 intro rq rr cq cr e w' he hb h1 h2 fq fr
 refine ⟨_,_,digs q,rq,cq,_,_,digs r,rr,cr,he,hb,h1,h2,?_,?_,lq,lr,fq,fr⟩
 ·rw [hq]
  exact ⟨yon sq q,by rw [sg_abs],rfl⟩
 ·rw [hr]
  exact ⟨yon sr r,by rw [sg_abs],rfl⟩
theorem yxn (w:World)(s t:Bool)(p q:Option Addr)(n c m d:Nat)(xs ys:List Nat)(h:Sl w p n c xs)(h':Sl w q m d ys)(hy:val ys≠0)(hs:n+1<=70368744177663)(hs':m<=70368744177663):
  Calls Tryz.prog 108 #[.agg #[.bool s,.slice p n c],.agg #[.bool t,.slice q m d]] w (Fl2 w (sg s (val xs)) (sg t (val ys)) (n+1) m):=by
 obtain ⟨W,g,hg,hW,d1,d2,d3,d4,HI⟩:=enter22 w s p n c t q m d
 have HY:=hid h'
 have DV:=hid (yn8 W p q n c m d xs ys (h.below HI.out.below) (h'.below HI.out.below) hy (by omega))
 have n0:g+1+1≠g:=by omega
 have n1:g+1+1≠g+1:=by omega
 have m0:g+1+1+1≠g:=by omega
 have m1:g+1+1+1≠g+1:=by omega
 have m2:g+1+1+1≠g+1+1:=by omega
 have hlq:(digs (val xs / val ys)).length<=n:=zhb (yag (zia _ _)) h.dl
 have hlr:(digs (val xs % val ys)).length<=m:=zhb (yag (zi4 (zic _ (zhw hy)))) h'.dl
 have hgW:=HI.out.lt
 have hxn:(digs (val xs)).length<=n:=h.dl
 obtain ⟨x,hx⟩:∃ x,val xs=x:=⟨_,rfl⟩
 obtain ⟨y,hyy⟩:∃ y,val ys=y:=⟨_,rfl⟩
 rw [hx,hyy] at DV hlq hlr
 rw [hx] at hxn
 rw [hx,hyy]
 rw [hyy] at hy
 have hdy:(digs y).length<=m:=by rw [← hyy]; exact h'.dl
 have HVY:=hid hyy
 clear h h' hx hyy
 by_cases hpl:s=t\/x % y=0
 ·obtain ⟨f1,f2⟩:=yfu s t x y hy hpl
  have FIN:=hid (yx5 (w:=w) (k:=n+1) (k':=m) f1 f2 (by omega) hlr)
  clear f1 f2
  obtain ⟨q0,hq0⟩:∃ q0,x / y=q0:=⟨_,rfl⟩
  obtain ⟨r0,hr0⟩:∃ r0,x % y=r0:=⟨_,rfl⟩
  rw [hq0,hr0] at DV FIN
  have hd0:=ya2 r0
  obtain ⟨Lq,hLq⟩:∃ L,(digs q0).length=L:=⟨_,rfl⟩
  obtain ⟨Lr,hLr⟩:∃ L,(digs r0).length=L:=⟨_,rfl⟩
  rw [hLq,hLr] at DV FIN
  rw [hLr] at hd0
  have HLq:=hid hLq
  have HLr:=hid hLr
  rw [hr0] at hpl
  by_cases hst:s=t
  ·subst hst
   have hb:(s != s)=false:=by simp
   rw [hb] at FIN
   clear hpl hd0 hq0 hr0 hLq hLr hlq hlr hy
   go_enter Tryz.func108,Tryz.ntmps108
   go_wp2_with fail
   refine DV.out.mono ?_
   rintro e w1 ⟨rq,cq,rr,cr,rfl,R1,R2,T12⟩
   have HQ:Hid (Sl w1 rq Lq cq (digs q0)):=by have:=R1.sl; rwa [HLq.out] at this
   have HR:Hid (Sl w1 rr Lr cr (digs r0)):=by have:=R2.sl; rwa [HLr.out] at this
   have FQ:=hid (fun b o (e:rq=some ⟨b,o,none⟩)=>(R1.own b o e).2.1)
   have FR:=hid (fun b o (e:rr=some ⟨b,o,none⟩)=>(R2.own b o e).2.1)
   replace HI:=hid (HI.out.call R1.below)
   have HBW:=hid R1.below
   replace d1:=yac d1 R1.below
   replace d3:=yac d3 R1.below
   replace d4:=yac d4 R1.below
   clear R1 R2 T12 DV d2
   go_wp2
   go_region_held3 (fun w'=>w'.cell? ⟨g,0,none⟩=some (.bool s)/\w'.cell? ⟨g+1,0,none⟩=some (.bool s)/\Hid (Inv2 w w' (g+1+1) (g+1+1+1)))
    (first | (with_reducible exact keepF (by assumption) hBz) | (with_reducible exact keepF2 (by assumption) n0 n1) | (with_reducible exact keepF3 (by assumption) m0 m1) | (exact ⟨d1,d3,HI.out.drew⟩) | fail)
    (first | (go_at_call_of 85 (Value.slice rq Lq cq); refine (ycx _ false rq Lq cq (zhb HQ.out.cap HQ.out.max)).mono ?_; rintro e wu ⟨rfl,hBz⟩; have HQ2:=hid ((HQ.out.below (Below.refl _ _).drew).below hBz); have HR2:=hid ((HR.out.below (Below.refl _ _).drew).below hBz))
           | (go_at_call_of 85 (Value.slice rr Lr cr); refine (ycx _ s rr Lr cr (zhb HR.out.cap HR.out.max)).mono ?_; rintro e wv ⟨rfl,hBz⟩; have hI2:=hid ((invF (w:=w) (by assumption)).call hBz); have HQ3:=hid (HQ2.out.below hBz); have HR3:=hid (HR2.out.below hBz); obtain ⟨b3,r3,n3,c3,hx3⟩:=hI2.out.box2; obtain ⟨b4,r4,n4,c4,hx4⟩:=hI2.out.box3; have k0:=hx3.at0; have k1:=hx3.at1; have k2:=hx3.frozen 0; have k3:=hx3.frozen 1; have k4:=hx4.at0; have k5:=hx4.at1; have k6:=hx4.frozen 0; have k7:=hx4.frozen 1))
   go_wp2
   have hc:=(hx3.set (false) rq Lq cq)
   have hc':=boxFar (v0:=.bool (s && decide (0 < Lr))) (v1:=.slice rr Lr cr) hc (show g+1+1≠g+1+1+1 by omega)
   have hd:=(boxFar (v0:=.bool (false)) (v1:=.slice rq Lq cq) hx4 (show g+1+1+1≠g+1+1 by omega)).set (s && decide (0 < Lr)) rr Lr cr
   have hc0:=hc'.at0
   have hc1:=hc'.at1
   have hd0:=hd.at0
   have hd1:=hd.at1
   refine bodyPost_ret (by simp [results,Tryz.results108,go_sem,hc0,hc1,hd0,hd1]; try rfl) rfl ?_
   exact FIN.out _ _ _ _ _ _ (by simp) ((hI2.out.set2 _ _ _ _).set3 _ _ _ _).below (yc4 (yc4 HQ3.out (fun b o e=>by have:=FQ.out b o e; omega)) (fun b o e=>by have:=FQ.out b o e; omega)) (yc4 (yc4 HR3.out (fun b o e=>by have:=FR.out b o e; omega)) (fun b o e=>by have:=FR.out b o e; omega)) (fun b o e=>by have:=FQ.out b o e; omega) (fun b o e=>by have:=FR.out b o e; omega)
  ·have hr1:r0=0:=hpl.resolve_left hst
   have hL0:Lr=0:=hd0.2 hr1
   subst hL0
   clear hpl hd0 hq0 hr0 hLq hLr hlq hlr hy hr1
   obtain ⟨rfl,rfl⟩ | ⟨rfl,rfl⟩:(s=true/\t=false)\/(s=false/\t=true):=by cases s <;> cases t <;> simp at *
   ·clear hst
    go_enter Tryz.func108,Tryz.ntmps108
    go_wp2_with fail
    refine DV.out.mono ?_
    rintro e w1 ⟨rq,cq,rr,cr,rfl,R1,R2,T12⟩
    have HQ:Hid (Sl w1 rq Lq cq (digs q0)):=by have:=R1.sl; rwa [HLq.out] at this
    have HR:Hid (Sl w1 rr 0 cr (digs r0)):=by have:=R2.sl; rwa [HLr.out] at this
    have FQ:=hid (fun b o (e:rq=some ⟨b,o,none⟩)=>(R1.own b o e).2.1)
    have FR:=hid (fun b o (e:rr=some ⟨b,o,none⟩)=>(R2.own b o e).2.1)
    replace HI:=hid (HI.out.call R1.below)
    have HBW:=hid R1.below
    replace d1:=yac d1 R1.below
    replace d3:=yac d3 R1.below
    replace d4:=yac d4 R1.below
    clear R1 R2 T12 DV d2
    go_wp2
    go_region_held3 (fun w'=>w'.cell? ⟨g,0,none⟩=some (.bool true)/\w'.cell? ⟨g+1,0,none⟩=some (.bool false)/\Hid (Inv2 w w' (g+1+1) (g+1+1+1)))
     (first | (with_reducible exact keepF (by assumption) hBz) | (with_reducible exact keepF2 (by assumption) n0 n1) | (with_reducible exact keepF3 (by assumption) m0 m1) | (exact ⟨d1,d3,HI.out.drew⟩) | fail)
     (first | (go_at_call_of 85 (Value.slice rq Lq cq); refine (ycx _ true rq Lq cq (zhb HQ.out.cap HQ.out.max)).mono ?_; rintro e wu ⟨rfl,hBz⟩; have HQ2:=hid ((HQ.out.below (Below.refl _ _).drew).below hBz); have HR2:=hid ((HR.out.below (Below.refl _ _).drew).below hBz))
            | (go_at_call_of 85 (Value.slice rr 0 cr); refine (ycx _ false rr 0 cr (zhb HR.out.cap HR.out.max)).mono ?_; rintro e wv ⟨rfl,hBz⟩; have hI2:=hid ((invF (w:=w) (by assumption)).call hBz); have HQ3:=hid (HQ2.out.below hBz); have HR3:=hid (HR2.out.below hBz); obtain ⟨b3,r3,n3,c3,hx3⟩:=hI2.out.box2; obtain ⟨b4,r4,n4,c4,hx4⟩:=hI2.out.box3; have k0:=hx3.at0; have k1:=hx3.at1; have k2:=hx3.frozen 0; have k3:=hx3.frozen 1; have k4:=hx4.at0; have k5:=hx4.at1; have k6:=hx4.frozen 0; have k7:=hx4.frozen 1))
    go_wp2
    have hc:=(hx3.set (decide (0 < Lq)) rq Lq cq)
    have hc':=boxFar (v0:=.bool (false)) (v1:=.slice rr 0 cr) hc (show g+1+1≠g+1+1+1 by omega)
    have hd:=(boxFar (v0:=.bool (decide (0 < Lq))) (v1:=.slice rq Lq cq) hx4 (show g+1+1+1≠g+1+1 by omega)).set (false) rr 0 cr
    have hc0:=hc'.at0
    have hc1:=hc'.at1
    have hd0:=hd.at0
    have hd1:=hd.at1
    refine bodyPost_ret (by simp [results,Tryz.results108,go_sem,hc0,hc1,hd0,hd1]; try rfl) rfl ?_
    exact FIN.out _ _ _ _ _ _ (by simp) ((hI2.out.set2 _ _ _ _).set3 _ _ _ _).below (yc4 (yc4 HQ3.out (fun b o e=>by have:=FQ.out b o e; omega)) (fun b o e=>by have:=FQ.out b o e; omega)) (yc4 (yc4 HR3.out (fun b o e=>by have:=FR.out b o e; omega)) (fun b o e=>by have:=FR.out b o e; omega)) (fun b o e=>by have:=FQ.out b o e; omega) (fun b o e=>by have:=FR.out b o e; omega)
   ·clear hst
    go_enter Tryz.func108,Tryz.ntmps108
    go_wp2_with fail
    refine DV.out.mono ?_
    rintro e w1 ⟨rq,cq,rr,cr,rfl,R1,R2,T12⟩
    have HQ:Hid (Sl w1 rq Lq cq (digs q0)):=by have:=R1.sl; rwa [HLq.out] at this
    have HR:Hid (Sl w1 rr 0 cr (digs r0)):=by have:=R2.sl; rwa [HLr.out] at this
    have FQ:=hid (fun b o (e:rq=some ⟨b,o,none⟩)=>(R1.own b o e).2.1)
    have FR:=hid (fun b o (e:rr=some ⟨b,o,none⟩)=>(R2.own b o e).2.1)
    replace HI:=hid (HI.out.call R1.below)
    have HBW:=hid R1.below
    replace d1:=yac d1 R1.below
    replace d3:=yac d3 R1.below
    replace d4:=yac d4 R1.below
    clear R1 R2 T12 DV d2
    go_wp2
    go_region_held3 (fun w'=>w'.cell? ⟨g,0,none⟩=some (.bool false)/\w'.cell? ⟨g+1,0,none⟩=some (.bool true)/\Hid (Inv2 w w' (g+1+1) (g+1+1+1)))
     (first | (with_reducible exact keepF (by assumption) hBz) | (with_reducible exact keepF2 (by assumption) n0 n1) | (with_reducible exact keepF3 (by assumption) m0 m1) | (exact ⟨d1,d3,HI.out.drew⟩) | fail)
     (first | (go_at_call_of 85 (Value.slice rq Lq cq); refine (ycx _ true rq Lq cq (zhb HQ.out.cap HQ.out.max)).mono ?_; rintro e wu ⟨rfl,hBz⟩; have HQ2:=hid ((HQ.out.below (Below.refl _ _).drew).below hBz); have HR2:=hid ((HR.out.below (Below.refl _ _).drew).below hBz))
            | (go_at_call_of 85 (Value.slice rr 0 cr); refine (ycx _ true rr 0 cr (zhb HR.out.cap HR.out.max)).mono ?_; rintro e wv ⟨rfl,hBz⟩; have hI2:=hid ((invF (w:=w) (by assumption)).call hBz); have HQ3:=hid (HQ2.out.below hBz); have HR3:=hid (HR2.out.below hBz); obtain ⟨b3,r3,n3,c3,hx3⟩:=hI2.out.box2; obtain ⟨b4,r4,n4,c4,hx4⟩:=hI2.out.box3; have k0:=hx3.at0; have k1:=hx3.at1; have k2:=hx3.frozen 0; have k3:=hx3.frozen 1; have k4:=hx4.at0; have k5:=hx4.at1; have k6:=hx4.frozen 0; have k7:=hx4.frozen 1))
    go_wp2
    have hc:=(hx3.set (decide (0 < Lq)) rq Lq cq)
    have hc':=boxFar (v0:=.bool (false)) (v1:=.slice rr 0 cr) hc (show g+1+1≠g+1+1+1 by omega)
    have hd:=(boxFar (v0:=.bool (decide (0 < Lq))) (v1:=.slice rq Lq cq) hx4 (show g+1+1+1≠g+1+1 by omega)).set (false) rr 0 cr
    have hc0:=hc'.at0
    have hc1:=hc'.at1
    have hd0:=hd.at0
    have hd1:=hd.at1
    refine bodyPost_ret (by simp [results,Tryz.results108,go_sem,hc0,hc1,hd0,hd1]; try rfl) rfl ?_
    exact FIN.out _ _ _ _ _ _ (by simp) ((hI2.out.set2 _ _ _ _).set3 _ _ _ _).below (yc4 (yc4 HQ3.out (fun b o e=>by have:=FQ.out b o e; omega)) (fun b o e=>by have:=FQ.out b o e; omega)) (yc4 (yc4 HR3.out (fun b o e=>by have:=FR.out b o e; omega)) (fun b o e=>by have:=FR.out b o e; omega)) (fun b o e=>by have:=FQ.out b o e; omega) (fun b o e=>by have:=FR.out b o e; omega)
 ·have hst:s≠t:=fun e=>hpl (Or.inl e)
  have hr0':x % y≠0:=fun e=>hpl (Or.inr e)
  obtain ⟨f1,f2⟩:=ypd s t x y hy hst hr0'
  have hlt:=zic x (zhw hy)
  have FIN:=hid (yx5 (w:=w) (k:=n+1) (k':=m) f1 f2 (yk5 hlq hxn hr0') (zhb (yag (zk7 _ _)) hdy))
  clear f1 f2
  obtain ⟨q0,hq0⟩:∃ q0,x / y=q0:=⟨_,rfl⟩
  obtain ⟨r0,hr0⟩:∃ r0,x % y=r0:=⟨_,rfl⟩
  rw [hq0,hr0] at DV FIN
  rw [hr0] at hlt hr0' hlr
  rw [hq0] at hlq
  have hd0:=ya2 r0
  obtain ⟨Lq',hLq'⟩:∃ L,(digs q0).length=L:=⟨_,rfl⟩
  obtain ⟨Lr',hLr'⟩:∃ L,(digs r0).length=L:=⟨_,rfl⟩
  rw [hLq',hLr'] at DV
  rw [hLr'] at hd0 hlr
  rw [hLq'] at hlq
  have hL0:0 < Lr':=zhw (fun e=>hr0' (hd0.1 e))
  obtain ⟨Lq,hLq⟩:∃ L,(digs (q0+1)).length=L:=⟨_,rfl⟩
  obtain ⟨Lr,hLr⟩:∃ L,(digs (y-r0)).length=L:=⟨_,rfl⟩
  rw [hLq,hLr] at FIN
  have AD:Hid (∀ W' (r:Option Addr) (cr:Nat),Sl W' r Lq' cr (digs q0)->Calls Tryz.prog 86 #[.slice r Lq' cr,.slice (some ⟨W'.heap.size,0,none⟩) 1 1] (W'.alloc (.cells #[.int .u32 1] 64)) fun e w'=>∃ r cr,e=.returned (.slice r Lq cr)/\Below W'.heap.size W' w'/\Sl w' r Lq cr (digs (q0+1))/\∀ b o,r=some ⟨b,o,none⟩->W'.heap.size<=b):=by
   intro W' r cr hr
   have:=yvr (W'.alloc (.cells #[.int .u32 1] 64)) r (some ⟨W'.heap.size,0,none⟩) Lq' cr 1 1 (digs q0) [1] (hr.below (yam _ _)) (yyz (yzk (z:=1) rfl (heap_alloc_last _ _)) (by omega)) (by omega) (by omega)
   rw [yaf,show val [1]=1 from rfl,hLq] at this
   refine this.mono ?_
   rintro e w' ⟨r',cr',rfl,R⟩
   have hs:=R.sl
   rw [hLq] at hs
   have hB:=yam W' (.cells #[.int .u32 1] 64)
   exact ⟨r',cr',rfl,hB.trans (R.below.mono hB.size),hs,fun b o e=>zhb hB.size (R.own b o e).2.1⟩
  have SU:Hid (∀ W' (r:Option Addr) (cr:Nat),Below w.heap.size w W'->Sl W' r Lr' cr (digs r0)->Calls Tryz.prog 87 #[.slice q m d,.slice r Lr' cr] W' fun e w'=>∃ r cr,e=.returned (.tuple #[.slice r Lr cr,.int .i64 0])/\Below W'.heap.size W' w'/\Sl w' r Lr cr (digs (y-r0))/\∀ b o,r=some ⟨b,o,none⟩->W'.heap.size<=b):=by
   intro W' r cr hb hr
   have:=zbk W' q r m d Lr' cr ys (digs r0) (HY.out.below hb) hr (by omega) (by rw [yaf,HVY.out]; omega)
   rw [yaf,HVY.out,hLr] at this
   refine this.mono ?_
   rintro e w' ⟨r',cr',rfl,R⟩
   have hs:=R.sl
   rw [hLr] at hs
   exact ⟨r',cr',rfl,R.below,hs,fun b o e=>(R.own b o e).2.1⟩
  have HLq:=hid hLq'
  have HLr:=hid hLr'
  clear hq0 hr0 hLq hLr hLq' hLr' hlq hlr hy hpl hd0 hr0' hlt hdy hxn HVY HY
  obtain ⟨rfl,rfl⟩ | ⟨rfl,rfl⟩:(s=true/\t=false)\/(s=false/\t=true):=by cases s <;> cases t <;> simp at *
  ·clear hst
   go_enter Tryz.func108,Tryz.ntmps108
   go_wp2_with fail
   refine DV.out.mono ?_
   rintro e w1 ⟨rq,cq,rr,cr,rfl,R1,R2,T12⟩
   have HQ:Hid (Sl w1 rq Lq' cq (digs q0)):=by have:=R1.sl; rwa [HLq.out] at this
   have HR:Hid (Sl w1 rr Lr' cr (digs r0)):=by have:=R2.sl; rwa [HLr.out] at this
   have FQ:=hid (fun b o (e:rq=some ⟨b,o,none⟩)=>(R1.own b o e).2.1)
   have FR:=hid (fun b o (e:rr=some ⟨b,o,none⟩)=>(R2.own b o e).2.1)
   replace HI:=hid (HI.out.call R1.below)
   have HBW:=hid R1.below
   replace d1:=yac d1 R1.below
   replace d3:=yac d3 R1.below
   replace d4:=yac d4 R1.below
   clear R1 R2 T12 DV d2
   go_wp2_with fail
   refine (AD.out w1 rq cq HQ.out).mono ?_
   rintro e w2 ⟨rq2,cq2,rfl,B2,S2,F2⟩
   replace HI:=hid (HI.out.call B2)
   replace d1:=yac d1 B2
   replace d3:=yac d3 B2
   replace d4:=yac d4 B2
   have HS2:=hid S2
   have FQ2:=hid (fun b o (e:rq2=some ⟨b,o,none⟩)=>zhb HBW.out.size (F2 b o e))
   have HRR:=hid (HR.out.below B2)
   have hw2:W.heap.size<=w2.heap.size:=zhb HBW.out.size B2.size
   clear B2 S2 F2 FQ FR HQ HR
   go_wp2_with fail
   refine (SU.out w2 rr cr HI.out.below HRR.out).mono ?_
   rintro e w3 ⟨rr2,cr2,rfl,B3,S3,F3⟩
   replace HI:=hid (HI.out.call B3)
   replace d1:=yac d1 B3
   replace d3:=yac d3 B3
   have HQ:=hid (HS2.out.below B3)
   have HR:=hid S3
   have FQ:=FQ2
   have FR:=hid (fun b o (e:rr2=some ⟨b,o,none⟩)=>zhb hw2 (F3 b o e))
   clear B3 S3 F3 FQ2 HS2 HRR AD SU d4
   go_wp2
   go_region_held3 (fun w'=>w'.cell? ⟨g,0,none⟩=some (.bool true)/\w'.cell? ⟨g+1,0,none⟩=some (.bool false)/\Hid (Inv2 w w' (g+1+1) (g+1+1+1)))
    (first | (with_reducible exact keepF (by assumption) hBz) | (with_reducible exact keepF2 (by assumption) n0 n1) | (with_reducible exact keepF3 (by assumption) m0 m1) | (exact ⟨d1,d3,HI.out.drew⟩) | fail)
    (first | (go_at_call_of 85 (Value.slice rq2 Lq cq2); refine (ycx _ true rq2 Lq cq2 (zhb HQ.out.cap HQ.out.max)).mono ?_; rintro e wu ⟨rfl,hBz⟩; have HQ2:=hid ((HQ.out.below (Below.refl _ _).drew).below hBz); have HR2:=hid ((HR.out.below (Below.refl _ _).drew).below hBz))
           | (go_at_call_of 85 (Value.slice rr2 Lr cr2); refine (ycx _ false rr2 Lr cr2 (zhb HR.out.cap HR.out.max)).mono ?_; rintro e wv ⟨rfl,hBz⟩; have hI2:=hid ((invF (w:=w) (by assumption)).call hBz); have HQ3:=hid (HQ2.out.below hBz); have HR3:=hid (HR2.out.below hBz); obtain ⟨b3,r3,n3,c3,hx3⟩:=hI2.out.box2; obtain ⟨b4,r4,n4,c4,hx4⟩:=hI2.out.box3; have k0:=hx3.at0; have k1:=hx3.at1; have k2:=hx3.frozen 0; have k3:=hx3.frozen 1; have k4:=hx4.at0; have k5:=hx4.at1; have k6:=hx4.frozen 0; have k7:=hx4.frozen 1))
   go_wp2
   have hc:=(hx3.set (decide (0 < Lq)) rq2 Lq cq2)
   have hc':=boxFar (v0:=.bool (false)) (v1:=.slice rr2 Lr cr2) hc (show g+1+1≠g+1+1+1 by omega)
   have hd:=(boxFar (v0:=.bool (decide (0 < Lq))) (v1:=.slice rq2 Lq cq2) hx4 (show g+1+1+1≠g+1+1 by omega)).set (false) rr2 Lr cr2
   have hc0:=hc'.at0
   have hc1:=hc'.at1
   have hd0:=hd.at0
   have hd1:=hd.at1
   refine bodyPost_ret (by simp [results,Tryz.results108,go_sem,hc0,hc1,hd0,hd1]; try rfl) rfl ?_
   exact FIN.out _ _ _ _ _ _ (by simp) ((hI2.out.set2 _ _ _ _).set3 _ _ _ _).below (yc4 (yc4 HQ3.out (fun b o e=>by have:=FQ.out b o e; omega)) (fun b o e=>by have:=FQ.out b o e; omega)) (yc4 (yc4 HR3.out (fun b o e=>by have:=FR.out b o e; omega)) (fun b o e=>by have:=FR.out b o e; omega)) (fun b o e=>by have:=FQ.out b o e; omega) (fun b o e=>by have:=FR.out b o e; omega)
  ·clear hst
   go_enter Tryz.func108,Tryz.ntmps108
   go_wp2_with fail
   refine DV.out.mono ?_
   rintro e w1 ⟨rq,cq,rr,cr,rfl,R1,R2,T12⟩
   have HQ:Hid (Sl w1 rq Lq' cq (digs q0)):=by have:=R1.sl; rwa [HLq.out] at this
   have HR:Hid (Sl w1 rr Lr' cr (digs r0)):=by have:=R2.sl; rwa [HLr.out] at this
   have FQ:=hid (fun b o (e:rq=some ⟨b,o,none⟩)=>(R1.own b o e).2.1)
   have FR:=hid (fun b o (e:rr=some ⟨b,o,none⟩)=>(R2.own b o e).2.1)
   replace HI:=hid (HI.out.call R1.below)
   have HBW:=hid R1.below
   replace d1:=yac d1 R1.below
   replace d3:=yac d3 R1.below
   replace d4:=yac d4 R1.below
   clear R1 R2 T12 DV d2
   go_wp2_with fail
   refine (AD.out w1 rq cq HQ.out).mono ?_
   rintro e w2 ⟨rq2,cq2,rfl,B2,S2,F2⟩
   replace HI:=hid (HI.out.call B2)
   replace d1:=yac d1 B2
   replace d3:=yac d3 B2
   replace d4:=yac d4 B2
   have HS2:=hid S2
   have FQ2:=hid (fun b o (e:rq2=some ⟨b,o,none⟩)=>zhb HBW.out.size (F2 b o e))
   have HRR:=hid (HR.out.below B2)
   have hw2:W.heap.size<=w2.heap.size:=zhb HBW.out.size B2.size
   clear B2 S2 F2 FQ FR HQ HR
   go_wp2_with fail
   refine (SU.out w2 rr cr HI.out.below HRR.out).mono ?_
   rintro e w3 ⟨rr2,cr2,rfl,B3,S3,F3⟩
   replace HI:=hid (HI.out.call B3)
   replace d1:=yac d1 B3
   replace d3:=yac d3 B3
   have HQ:=hid (HS2.out.below B3)
   have HR:=hid S3
   have FQ:=FQ2
   have FR:=hid (fun b o (e:rr2=some ⟨b,o,none⟩)=>zhb hw2 (F3 b o e))
   clear B3 S3 F3 FQ2 HS2 HRR AD SU d4
   go_wp2
   go_region_held3 (fun w'=>w'.cell? ⟨g,0,none⟩=some (.bool false)/\w'.cell? ⟨g+1,0,none⟩=some (.bool true)/\Hid (Inv2 w w' (g+1+1) (g+1+1+1)))
    (first | (with_reducible exact keepF (by assumption) hBz) | (with_reducible exact keepF2 (by assumption) n0 n1) | (with_reducible exact keepF3 (by assumption) m0 m1) | (exact ⟨d1,d3,HI.out.drew⟩) | fail)
    (first | (go_at_call_of 85 (Value.slice rq2 Lq cq2); refine (ycx _ true rq2 Lq cq2 (zhb HQ.out.cap HQ.out.max)).mono ?_; rintro e wu ⟨rfl,hBz⟩; have HQ2:=hid ((HQ.out.below (Below.refl _ _).drew).below hBz); have HR2:=hid ((HR.out.below (Below.refl _ _).drew).below hBz))
           | (go_at_call_of 85 (Value.slice rr2 Lr cr2); refine (ycx _ true rr2 Lr cr2 (zhb HR.out.cap HR.out.max)).mono ?_; rintro e wv ⟨rfl,hBz⟩; have hI2:=hid ((invF (w:=w) (by assumption)).call hBz); have HQ3:=hid (HQ2.out.below hBz); have HR3:=hid (HR2.out.below hBz); obtain ⟨b3,r3,n3,c3,hx3⟩:=hI2.out.box2; obtain ⟨b4,r4,n4,c4,hx4⟩:=hI2.out.box3; have k0:=hx3.at0; have k1:=hx3.at1; have k2:=hx3.frozen 0; have k3:=hx3.frozen 1; have k4:=hx4.at0; have k5:=hx4.at1; have k6:=hx4.frozen 0; have k7:=hx4.frozen 1))
   go_wp2
   have hc:=(hx3.set (decide (0 < Lq)) rq2 Lq cq2)
   have hc':=boxFar (v0:=.bool (decide (0 < Lr))) (v1:=.slice rr2 Lr cr2) hc (show g+1+1≠g+1+1+1 by omega)
   have hd:=(boxFar (v0:=.bool (decide (0 < Lq))) (v1:=.slice rq2 Lq cq2) hx4 (show g+1+1+1≠g+1+1 by omega)).set (decide (0 < Lr)) rr2 Lr cr2
   have hc0:=hc'.at0
   have hc1:=hc'.at1
   have hd0:=hd.at0
   have hd1:=hd.at1
   refine bodyPost_ret (by simp [results,Tryz.results108,go_sem,hc0,hc1,hd0,hd1]; try rfl) rfl ?_
   exact FIN.out _ _ _ _ _ _ (by simp) ((hI2.out.set2 _ _ _ _).set3 _ _ _ _).below (yc4 (yc4 HQ3.out (fun b o e=>by have:=FQ.out b o e; omega)) (fun b o e=>by have:=FQ.out b o e; omega)) (yc4 (yc4 HR3.out (fun b o e=>by have:=FR.out b o e; omega)) (fun b o e=>by have:=FR.out b o e; omega)) (fun b o e=>by have:=FQ.out b o e; omega) (fun b o e=>by have:=FR.out b o e; omega)
end Go.Proofs.YtdnindaohpdblaaGreat
