import Derived.Test.YtdnindaohpdblaaGreatRsC
set_option linter.all false
namespace Go.Proofs.YtdnindaohpdblaaGreat
open Go.RowKit Nt
set_option maxRecDepth 20000
set_option maxHeartbeats 16000000
structure RInv (w w':World) (g2:Nat):Prop where
 below:Below w.heap.size w w'
 box:∃ s p n c t q m d,RBox w' g2 s p n c t q m d
 fresh:w.heap.size<=g2
theorem RInv.drew {w w':World}{g2:Nat}(h:RInv w w' g2):RInv w w'.drew g2:=⟨h.below.drew,h.box,h.fresh⟩
theorem RInv.call {w w' w'':World}{g2:Nat}(h:RInv w w' g2)(hb:Below w'.heap.size w' w''):RInv w w'' g2:=by
 obtain ⟨s,p,n,c,t,q,m,d,hx⟩:=h.box
 exact ⟨h.below.trans (hb.mono h.below.size),⟨s,p,n,c,t,q,m,d,hx.below hb⟩,h.fresh⟩
theorem RInv.lt {w w':World}{g2:Nat}(h:RInv w w' g2):g2 < w'.heap.size:=by
 obtain ⟨s,p,n,c,t,q,m,d,hx⟩:=h.box
 exact hx.lt
theorem far4 {w:World}{a:Addr}{v v0 v1 v2 v3:Value}{g2:Nat}(h:w.cell? a=some v)(hg:g2≠a.block):((((w.setCell ⟨g2,0,none⟩ v0).setCell ⟨g2,1,none⟩ v1).setCell ⟨g2,2,none⟩ v2).setCell ⟨g2,3,none⟩ v3).cell? a=some v:=by
 rw [World.cell?_setCell_far _ _ _ _ hg,World.cell?_setCell_far _ _ _ _ hg,World.cell?_setCell_far _ _ _ _ hg,World.cell?_setCell_far _ _ _ _ hg]
 exact h
theorem RInv.set {w w':World}{g2:Nat}(h:RInv w w' g2)(s:Bool)(p:Option Addr)(n c:Nat)(t:Bool)(q:Option Addr)(m d:Nat):RInv w ((((w'.setCell ⟨g2,0,none⟩ (.bool s)).setCell ⟨g2,1,none⟩ (.slice p n c)).setCell ⟨g2,2,none⟩ (.bool t)).setCell ⟨g2,3,none⟩ (.slice q m d)) g2:=by
 obtain ⟨s0,p0,n0,c0,t0,q0,m0,d0,hx⟩:=h.box
 exact ⟨yen h.below h.fresh,⟨_,_,_,_,_,_,_,_,hx.set s p n c t q m d⟩,h.fresh⟩
section
variable {w w1 w2:World} {a1 a2 a3 a4 a5 a6 a7 a8:Addr} {v1 v2 v3 v4 v5 v6 v7 v8:Value} {g2:Nat}
end
theorem renter1 (w:World)(s:Bool)(p:Option Addr)(n c:Nat)(t:Bool)(q:Option Addr)(m d:Nat):
  ∃ W g,w.heap.size=g/\(w.alloc (.cells #[.bool s,.slice p n c,.bool t,.slice q m d] 26)).alloc (.cells #[.bool false,.slice none 0 0,.bool false,.slice none 0 0] 26)=W ∧
   W.cell? ⟨g,0,none⟩=some (.bool s)/\W.cell? ⟨g,1,none⟩=some (.slice p n c)/\W.cell? ⟨g,2,none⟩=some (.bool t)/\W.cell? ⟨g,3,none⟩=some (.slice q m d)/\Hid (RInv w W (g+1)):=by
 have B1:=yam w (.cells #[.bool s,.slice p n c,.bool t,.slice q m d] 26)
 have B3:=yam (w.alloc (.cells #[.bool s,.slice p n c,.bool t,.slice q m d] 26)) (.cells #[.bool false,.slice none 0 0,.bool false,.slice none 0 0] 26)
 have X1:=(yc2 w s p n c t q m d).below B3
 have X3:=yc2 (w.alloc (.cells #[.bool s,.slice p n c,.bool t,.slice q m d] 26)) false none 0 0 false none 0 0
 rw [show (w.alloc (.cells #[.bool s,.slice p n c,.bool t,.slice q m d] 26)).heap.size=w.heap.size+1 from by simp] at X3
 exact ⟨_,_,rfl,rfl,X1.at0,X1.at1,X1.at2,X1.at3,B1.trans (B3.mono B1.size),⟨_,_,_,_,_,_,_,_,X3⟩,by omega⟩
theorem yut {w w1 w2:World}{g2:Nat}{b:Bool}{L:Nat}{D:List Nat}{r:Option Addr}{k L':Nat}{r':Option Addr}{k':Nat}{A:Int}{B K K':Nat}(hI:RInv w w2 g2)(hlt:g2 < w1.heap.size)(S:Hid (Sl w2 r L k D))(S':Hid (Sl w2 r' L' k' (digs B)))(M:Hid (Nm b L D A))(l:L<=K)(l':L'<=K')
  (f:Hid (∀ b o,r=some ⟨b,o,none⟩->w1.heap.size<=b)) (f':Hid (∀ b o,r'=some ⟨b,o,none⟩->w1.heap.size<=b)):
  Rt w A B K K' (.returned (.agg #[.bool b,.slice r L k,.bool false,.slice r' L' k'])) ((((w2.setCell ⟨g2,0,none⟩ (.bool b)).setCell ⟨g2,1,none⟩ (.slice r L k)).setCell ⟨g2,2,none⟩ (.bool false)).setCell ⟨g2,3,none⟩ (.slice r' L' k')):=by
 have hf:=hI.fresh
 exact ⟨b,L,D,r,k,L',r',k',rfl,yen hI.below hI.fresh,ye8 S.out (fun b o e=>by have:=f.out b o e; omega),ye8 S'.out (fun b o e=>by have:=f'.out b o e; omega),M,l,l',fun b o e=>by have:=f.out b o e; omega,fun b o e=>by have:=f'.out b o e; omega⟩
def nR (X:Int)(Y:Nat):Int:=sg (ng X) (X.natAbs / Nat.gcd X.natAbs Y)
def dR (X:Int)(Y:Nat):Nat:=Y / Nat.gcd X.natAbs Y
theorem yth (s:Bool)(x y:Nat):nR (sg s x) y=sg s (x / Nat.gcd x y):=by unfold nR; rw [sg_abs,yoo]
theorem yse (s:Bool)(x y:Nat):dR (sg s x) y=y / Nat.gcd x y:=by unfold dR; rw [sg_abs]
theorem yf3 {X:Int}{Y:Nat}(h:Y≠0):dR X Y≠0:=by
 unfold dR
 have h1:=Nat.gcd_le_right X.natAbs (zhw h)
 have h2:0 < Nat.gcd X.natAbs Y:=zkf _ (zhw h)
 exact Nat.ne_of_gt (Nat.div_pos h1 h2)
theorem zdp (G:Nat)(s:Bool)(x:Nat):(G:Int)*sg s x=sg s (G*x):=by cases s <;> simp [sg,zk3]
theorem g_nR (X:Int)(Y:Nat):(Nat.gcd X.natAbs Y:Int)*nR X Y=X:=by
 unfold nR
 rw [zdp,Nat.mul_div_cancel' (zj2 _ _),yh1]
theorem g_dR (X:Int)(Y:Nat):Nat.gcd X.natAbs Y*dR X Y=Y:=by
 unfold dR
 exact Nat.mul_div_cancel' (zjm _ _)
theorem yku {G X:Int}(h:0 < G):(G*X).sign=X.sign:=by rw [zk6,zh7 h,Int.one_mul]
theorem zbb (X:Int)(Y:Nat)(h:Y≠0):(nR X Y).sign=X.sign:=by
 have hg:(0:Int) < (Nat.gcd X.natAbs Y:Int):=by exact_mod_cast zkf _ (zhw h)
 rw [← yku (X:=nR X Y) hg,g_nR]
theorem yw6 (A1 A2:Int)(y1 y2:Nat)(h1:y1≠0)(h2:y2≠0):
  (nR (A1*(dR (-A2) y2:Nat)+nR (-A2) y2*(y1:Nat)) (y1*dR (-A2) y2)).sign=(A1*(y2:Nat)-A2*(y1:Nat)).sign:=by
 rw [zbb _ _ (zh2 h1 (yf3 h2))]
 have hg:(0:Int) < (Nat.gcd (-A2).natAbs y2:Int):=by exact_mod_cast zkf _ (zhw h2)
 rw [← yku (X:=A1*_+_) hg]
 congr 1
 have e1:=g_nR (-A2) y2
 have e2:(Nat.gcd (-A2).natAbs y2:Int)*(dR (-A2) y2:Int)=(y2:Int):=by exact_mod_cast g_dR (-A2) y2
 rw [Int.mul_add,← zj7,zjb _ A1,zj7,e2,← zj7,e1,zk8]
 omega
theorem yyo (w:World)(s t:Bool)(p q:Option Addr)(n c m d:Nat)(xs ys:List Nat)(A B:Int)(eA:sg s (val xs)=A)(eB:sg t (val ys)=B)(h:Sl w p n c xs)(h':Sl w q m d ys)(hs:n+m<=35184372088832):
  Calls Tryz.prog 79 #[.agg #[.bool s,.slice p n c],.agg #[.bool t,.slice q m d]] w fun e w'=>∃ b L D r cr,e=.returned (.agg #[.bool b,.slice r L cr])/\Below w.heap.size w w'/\Hid (Sl w' r L cr D)/\Hid (Nm b L D (A*B))/\L<=n+m:=by
 refine (yoy w s t p q n c m d xs ys h h' hs).mono ?_
 rintro e w' ⟨r,cr,rfl,Z⟩
 subst eA eB
 refine ⟨_,_,_,r,cr,rfl,Z.below,Z.sl,Nm.mk' _,?_⟩
 rw [zh3,sg_abs,sg_abs]
 exact yaq h.dl h'.dl
theorem zea (w:World)(s t:Bool)(p q:Option Addr)(n c m d:Nat)(xs ys:List Nat)(A B:Int)(eA:sg s (val xs)=A)(eB:sg t (val ys)=B)(h:Sl w p n c xs)(h':Sl w q m d ys)(hs:n<=35184372088831)(hs':m<=35184372088831):
  Calls Tryz.prog 33 #[.agg #[.bool s,.slice p n c],.agg #[.bool t,.slice q m d]] w fun e w'=>∃ b L D r cr,e=.returned (.agg #[.bool b,.slice r L cr])/\Below w.heap.size w w'/\Hid (Sl w' r L cr D)/\Hid (Nm b L D (A+B))/\L<=n+m+1:=by
 refine (yvo w s t p q n c m d xs ys h h' hs hs').mono ?_
 rintro e w' ⟨r,cr,rfl,Z⟩
 subst eA eB
 refine ⟨_,_,_,r,cr,rfl,Z.below,Z.sl,Nm.mk' _,?_⟩
 refine zhb (yag (m:=val xs+val ys) (by have:=sg_abs s (val xs); have:=sg_abs t (val ys); omega)) ?_
 exact yc3 (zhb h.dl (Nat.le_add_right _ _)) (zhb h'.dl (Nat.le_add_left _ _))
section
variable {w w1 w2:World} {a1 a2 a3 a4 a5 a6 a7 a8:Addr} {v1 v2 v3 v4 v5 v6 v7 v8:Value} {g2:Nat}
theorem invR8 {A B C D E F G H:Prop}{w':World}(h:A/\B/\C/\D/\E/\F/\G/\H/\Hid (RInv w w' g2)):RInv w w' g2:=h.2.2.2.2.2.2.2.2
theorem keepR8 (h:w1.cell? a1=some v1/\w1.cell? a2=some v2/\w1.cell? a3=some v3/\w1.cell? a4=some v4/\w1.cell? a5=some v5/\w1.cell? a6=some v6/\w1.cell? a7=some v7/\w1.cell? a8=some v8/\Hid (RInv w w1 g2))(hb:Below w1.heap.size w1 w2):w2.cell? a1=some v1/\w2.cell? a2=some v2/\w2.cell? a3=some v3/\w2.cell? a4=some v4/\w2.cell? a5=some v5/\w2.cell? a6=some v6/\w2.cell? a7=some v7/\w2.cell? a8=some v8/\Hid (RInv w w2 g2):=⟨yac h.1 hb,yac h.2.1 hb,yac h.2.2.1 hb,yac h.2.2.2.1 hb,yac h.2.2.2.2.1 hb,yac h.2.2.2.2.2.1 hb,yac h.2.2.2.2.2.2.1 hb,yac h.2.2.2.2.2.2.2.1 hb,RInv.call h.2.2.2.2.2.2.2.2 hb⟩
theorem keepR8s {s:Bool}{p:Option Addr}{n c:Nat}{t:Bool}{q:Option Addr}{m d:Nat}(h:w1.cell? a1=some v1/\w1.cell? a2=some v2/\w1.cell? a3=some v3/\w1.cell? a4=some v4/\w1.cell? a5=some v5/\w1.cell? a6=some v6/\w1.cell? a7=some v7/\w1.cell? a8=some v8/\Hid (RInv w w1 g2))(h1:g2≠a1.block)(h2:g2≠a2.block)(h3:g2≠a3.block)(h4:g2≠a4.block)(h5:g2≠a5.block)(h6:g2≠a6.block)(h7:g2≠a7.block)(h8:g2≠a8.block):((((w1.setCell ⟨g2,0,none⟩ (.bool s)).setCell ⟨g2,1,none⟩ (.slice p n c)).setCell ⟨g2,2,none⟩ (.bool t)).setCell ⟨g2,3,none⟩ (.slice q m d)).cell? a1=some v1/\((((w1.setCell ⟨g2,0,none⟩ (.bool s)).setCell ⟨g2,1,none⟩ (.slice p n c)).setCell ⟨g2,2,none⟩ (.bool t)).setCell ⟨g2,3,none⟩ (.slice q m d)).cell? a2=some v2/\((((w1.setCell ⟨g2,0,none⟩ (.bool s)).setCell ⟨g2,1,none⟩ (.slice p n c)).setCell ⟨g2,2,none⟩ (.bool t)).setCell ⟨g2,3,none⟩ (.slice q m d)).cell? a3=some v3/\((((w1.setCell ⟨g2,0,none⟩ (.bool s)).setCell ⟨g2,1,none⟩ (.slice p n c)).setCell ⟨g2,2,none⟩ (.bool t)).setCell ⟨g2,3,none⟩ (.slice q m d)).cell? a4=some v4/\((((w1.setCell ⟨g2,0,none⟩ (.bool s)).setCell ⟨g2,1,none⟩ (.slice p n c)).setCell ⟨g2,2,none⟩ (.bool t)).setCell ⟨g2,3,none⟩ (.slice q m d)).cell? a5=some v5/\((((w1.setCell ⟨g2,0,none⟩ (.bool s)).setCell ⟨g2,1,none⟩ (.slice p n c)).setCell ⟨g2,2,none⟩ (.bool t)).setCell ⟨g2,3,none⟩ (.slice q m d)).cell? a6=some v6/\((((w1.setCell ⟨g2,0,none⟩ (.bool s)).setCell ⟨g2,1,none⟩ (.slice p n c)).setCell ⟨g2,2,none⟩ (.bool t)).setCell ⟨g2,3,none⟩ (.slice q m d)).cell? a7=some v7/\((((w1.setCell ⟨g2,0,none⟩ (.bool s)).setCell ⟨g2,1,none⟩ (.slice p n c)).setCell ⟨g2,2,none⟩ (.bool t)).setCell ⟨g2,3,none⟩ (.slice q m d)).cell? a8=some v8/\Hid (RInv w ((((w1.setCell ⟨g2,0,none⟩ (.bool s)).setCell ⟨g2,1,none⟩ (.slice p n c)).setCell ⟨g2,2,none⟩ (.bool t)).setCell ⟨g2,3,none⟩ (.slice q m d)) g2):=
 ⟨far4 h.1 h1,far4 h.2.1 h2,far4 h.2.2.1 h3,far4 h.2.2.2.1 h4,far4 h.2.2.2.2.1 h5,far4 h.2.2.2.2.2.1 h6,far4 h.2.2.2.2.2.2.1 h7,far4 h.2.2.2.2.2.2.2.1 h8,RInv.set h.2.2.2.2.2.2.2.2 s p n c t q m d⟩
end
theorem renter2 (w:World)(s1:Bool)(p1:Option Addr)(n1 c1:Nat)(t1:Bool)(q1:Option Addr)(m1 d1:Nat)(s2:Bool)(p2:Option Addr)(n2 c2:Nat)(t2:Bool)(q2:Option Addr)(m2 d2:Nat):
  ∃ W g,w.heap.size=g/\((w.alloc (.cells #[.bool s1,.slice p1 n1 c1,.bool t1,.slice q1 m1 d1] 26)).alloc (.cells #[.bool s2,.slice p2 n2 c2,.bool t2,.slice q2 m2 d2] 26)).alloc (.cells #[.bool false,.slice none 0 0,.bool false,.slice none 0 0] 26)=W ∧
   W.cell? ⟨g,0,none⟩=some (.bool s1)/\W.cell? ⟨g,1,none⟩=some (.slice p1 n1 c1)/\W.cell? ⟨g,2,none⟩=some (.bool t1)/\W.cell? ⟨g,3,none⟩=some (.slice q1 m1 d1) ∧
   W.cell? ⟨g+1,0,none⟩=some (.bool s2)/\W.cell? ⟨g+1,1,none⟩=some (.slice p2 n2 c2)/\W.cell? ⟨g+1,2,none⟩=some (.bool t2)/\W.cell? ⟨g+1,3,none⟩=some (.slice q2 m2 d2)/\Hid (RInv w W (g+1+1)):=by
 have B1:=yam w (.cells #[.bool s1,.slice p1 n1 c1,.bool t1,.slice q1 m1 d1] 26)
 have B2:=yam (w.alloc (.cells #[.bool s1,.slice p1 n1 c1,.bool t1,.slice q1 m1 d1] 26)) (.cells #[.bool s2,.slice p2 n2 c2,.bool t2,.slice q2 m2 d2] 26)
 have B3:=yam ((w.alloc (.cells #[.bool s1,.slice p1 n1 c1,.bool t1,.slice q1 m1 d1] 26)).alloc (.cells #[.bool s2,.slice p2 n2 c2,.bool t2,.slice q2 m2 d2] 26)) (.cells #[.bool false,.slice none 0 0,.bool false,.slice none 0 0] 26)
 have X1:=((yc2 w s1 p1 n1 c1 t1 q1 m1 d1).below B2).below B3
 have X2:=(yc2 (w.alloc (.cells #[.bool s1,.slice p1 n1 c1,.bool t1,.slice q1 m1 d1] 26)) s2 p2 n2 c2 t2 q2 m2 d2).below B3
 have X3:=yc2 ((w.alloc (.cells #[.bool s1,.slice p1 n1 c1,.bool t1,.slice q1 m1 d1] 26)).alloc (.cells #[.bool s2,.slice p2 n2 c2,.bool t2,.slice q2 m2 d2] 26)) false none 0 0 false none 0 0
 rw [show (w.alloc (.cells #[.bool s1,.slice p1 n1 c1,.bool t1,.slice q1 m1 d1] 26)).heap.size=w.heap.size+1 from by simp] at X2
 rw [show ((w.alloc (.cells #[.bool s1,.slice p1 n1 c1,.bool t1,.slice q1 m1 d1] 26)).alloc (.cells #[.bool s2,.slice p2 n2 c2,.bool t2,.slice q2 m2 d2] 26)).heap.size=w.heap.size+1+1 from by simp] at X3
 exact ⟨_,_,rfl,rfl,X1.at0,X1.at1,X1.at2,X1.at3,X2.at0,X2.at1,X2.at2,X2.at3,B1.trans ((B2.trans (B3.mono B2.size)).mono B1.size),⟨_,_,_,_,_,_,_,_,X3⟩,by omega⟩
theorem zee (w:World)(s:Bool)(p q:Option Addr)(n c m d:Nat)(xs ys:List Nat)(h:Sl w p n c xs)(h':Sl w q m d ys)(hy:val ys≠0)(hs:n+1<=35184372088831)(hs':m+1<=35184372088831):
  Calls Tryz.prog 49 #[.agg #[.bool s,.slice p n c,.bool false,.slice q m d]] w (Rt w (nR (-sg s (val xs)) (val ys)) (dR (-sg s (val xs)) (val ys)) n m):=by
 rw [← ynn,yth,yse]
 obtain ⟨W,g,hg,hW,d1,d2,d3,d4,HI⟩:=renter1 w s p n c false q m d
 have HY:=hid h'
 have m0:g+1≠g:=by omega
 have NG:Hid (∀ W',Below w.heap.size w W'->Calls Tryz.prog 80 #[.agg #[.bool s,.slice p n c]] W' fun e w'=>∃ b L r cr,e=.returned (.agg #[.bool b,.slice r L cr])/\Below W'.heap.size W' w'/\Sl w' r L cr (digs (val xs))/\L<=n/\b=ng (sg (!s) (val xs))):=by
  intro W' hb
  have:=yvp W' s p n c xs (h.below hb) (by omega)
  rw [← ynn] at this
  refine this.mono ?_
  rintro e w' ⟨r,cr,rfl,Z⟩
  have hz:=Z.sl
  rw [sg_abs] at hz ⊢
  exact ⟨_,_,r,cr,rfl,Z.below,hz,h.dl,rfl⟩
 have MK:Hid (∀ W' (b:Bool) (L:Nat) (r:Option Addr) (cr:Nat),Below w.heap.size w W'->Sl W' r L cr (digs (val xs))->L<=n->b=ng (sg (!s) (val xs))->Calls Tryz.prog 50 #[.agg #[.bool b,.slice r L cr],.agg #[.bool false,.slice q m d]] W' (Rt W' (sg (!s) (val xs / Nat.gcd (val xs) (val ys))) (val ys / Nat.gcd (val xs) (val ys)) n m)):=by
  intro W' b L r cr hb hr hl e
  have:=ylo W' b r q L cr m d (digs (val xs)) ys hr (h'.below hb) hy (by omega) hs'
  rw [yaf,show sg b (val xs / Nat.gcd (val xs) (val ys))=sg (!s) (val xs / Nat.gcd (val xs) (val ys)) from by rw [e]; exact yoo _ _ _] at this
  refine this.mono ?_
  rintro e w' ⟨b1,L1,D1,r1,k1,L2,r2,k2,h1,h2,h3,h4,h5,h6,h7,h8,h9⟩
  exact ⟨b1,L1,D1,r1,k1,L2,r2,k2,h1,h2,h3,h4,h5,zhb h6 hl,h7,h8,h9⟩
 generalize sg (!s) (val xs / Nat.gcd (val xs) (val ys))=NN at *
 generalize val ys / Nat.gcd (val xs) (val ys)=DD at *
 clear h h' hy
 go_enter Tryz.func49,Tryz.ntmps49
 go_wp2
 go_region_with (first | (go_at_call 80; refine (NG.out _ HI.out.below.drew).mono ?_; rintro e w1 ⟨b1,L1,r1,k1,rfl,hBz,hS1,hl1,hb1⟩; have HS1:=hid hS1; have HB1:=hid hb1; clear hb1 hS1; have f3:=yac (w:=W.drew) d3 hBz; have f4:=yac (w:=W.drew) d4 hBz; have HI1:=hid (HI.out.drew.call hBz))
                       | (go_at_call 50; refine (MK.out _ b1 L1 r1 k1 HI1.out.below HS1.out hl1 HB1.out).mono ?_; rintro e w2 ⟨b2,L2,D2,r2,k2,L3,r3,k3,rfl,hBz,S2,S3,M2,l2,l3,f2,f3'⟩; have hlt:=hid HI1.out.lt; have hI2:=hid (HI1.out.call hBz); obtain ⟨x1,x2,x3,x4,x5,x6,x7,x8,hx3⟩:=hI2.out.box; have k0:=hx3.at0; have k1:=hx3.at1; have k2':=hx3.at2; have k3':=hx3.at3; have k4:=hx3.frozen 0; have k5:=hx3.frozen 1; have k6:=hx3.frozen 2; have k7:=hx3.frozen 3))
 all_goals
  go_wp2
  have hc:=hx3.set b2 r2 L2 k2 false r3 L3 k3
  have hc0:=hc.at0
  have hc1:=hc.at1
  have hc2:=hc.at2
  have hc3:=hc.at3
  refine bodyPost_ret (by simp [results,Tryz.results49,go_sem,hc0,hc1,hc2,hc3]; try rfl) rfl ?_
  exact yut hI2.out hlt.out S2 S3 M2 l2 l3 f2 f3'
theorem yur (w:World)(s1:Bool)(p1:Option Addr)(n1 c1:Nat)(xs1:List Nat)(q1:Option Addr)(m1 d1:Nat)(ys1:List Nat)(s2:Bool)(p2:Option Addr)(n2 c2:Nat)(xs2:List Nat)(q2:Option Addr)(m2 d2:Nat)(ys2:List Nat)
  (h1:Sl w p1 n1 c1 xs1) (g1:Sl w q1 m1 d1 ys1) (h2:Sl w p2 n2 c2 xs2) (g2:Sl w q2 m2 d2 ys2) (y1:val ys1≠0) (y2:val ys2≠0) (A1 A2:Int) (eA1:sg s1 (val xs1)=A1) (eA2:sg s2 (val xs2)=A2)
  (b1:n1<=8388608) (b2:m1<=8388608) (b3:n2<=8388608) (b4:m2<=8388608):
  Calls Tryz.prog 44 #[.agg #[.bool s1,.slice p1 n1 c1,.bool false,.slice q1 m1 d1],.agg #[.bool s2,.slice p2 n2 c2,.bool false,.slice q2 m2 d2]] w (Rt w (nR (A1*(val ys2:Nat)+A2*(val ys1:Nat)) (val ys1*val ys2)) (dR (A1*(val ys2:Nat)+A2*(val ys1:Nat)) (val ys1*val ys2)) 67108864 67108864):=by
 obtain ⟨W,g,hg,hW,a0,a1,a2,a3,e0,e1,e2,e3,HI⟩:=renter2 w s1 p1 n1 c1 false q1 m1 d1 s2 p2 n2 c2 false q2 m2 d2
 have sgf:∀ y:Nat,sg false y=(y:Int):=fun y=>by unfold sg; simp
 have M1:=hid (yyo W s1 false p1 q2 n1 c1 m2 d2 xs1 ys2 A1 (val ys2:Nat) eA1 (sgf _) (h1.below HI.out.below) (g2.below HI.out.below) (by omega))
 have M2:Hid (∀ W',Below w.heap.size w W'->_):=fun W' hb=>yyo W' s2 false p2 q1 n2 c2 m1 d1 xs2 ys1 A2 (val ys1:Nat) eA2 (sgf _) (h2.below hb) (g1.below hb) (by omega)
 have DM:Hid (∀ W',Below w.heap.size w W'->Calls Tryz.prog 79 #[.agg #[.bool false,.slice q1 m1 d1],.agg #[.bool false,.slice q2 m2 d2]] W' fun e w'=>∃ L r cr,e=.returned (.agg #[.bool false,.slice r L cr])/\Below W'.heap.size W' w'/\Hid (Sl w' r L cr (digs (val ys1*val ys2)))/\L<=m1+m2):=by
  intro W' hb
  refine (yoy W' false false q1 q2 m1 d1 m2 d2 ys1 ys2 (g1.below hb) (g2.below hb) (by omega)).mono ?_
  rintro e w' ⟨r,cr,rfl,Z⟩
  have hz:=Z.sl
  rw [zh3,sg_abs,sg_abs] at hz ⊢
  refine ⟨_,r,cr,?_,Z.below,hz,yaq g1.dl g2.dl⟩
  rw [show ng (sg false (val ys1)*sg false (val ys2))=false from by
   rw [sgf,sgf]; unfold ng
   have:(0:Int)<=(val ys1:Int)*(val ys2:Int):=Int.mul_nonneg (by omega) (by omega)
   simp; omega]
 have y0:val ys1*val ys2≠0:=zh2 y1 y2
 have MK:Hid (∀ W' (b:Bool) (L:Nat) (D:List Nat) (r:Option Addr) (cr L':Nat) (r':Option Addr) (cr':Nat),Sl W' r L cr D->Nm b L D (A1*(val ys2:Nat)+A2*(val ys1:Nat))->Sl W' r' L' cr' (digs (val ys1*val ys2))->L<=67108864->L'<=67108864 →
   Calls Tryz.prog 50 #[.agg #[.bool b,.slice r L cr],.agg #[.bool false,.slice r' L' cr']] W' (Rt W' (nR (A1*(val ys2:Nat)+A2*(val ys1:Nat)) (val ys1*val ys2)) (dR (A1*(val ys2:Nat)+A2*(val ys1:Nat)) (val ys1*val ys2)) 67108864 67108864)):=by
  intro W' b L D r cr L' r' cr' hr hN hr' hl hl'
  have:=ylo W' b r r' L cr L' cr' D (digs (val ys1*val ys2)) hr hr' (by rw [yaf]; exact y0) (by omega) (by omega)
  rw [yaf,← yth,← yse b,hN.sg] at this
  refine this.mono ?_
  rintro e w' ⟨b1,L1,D1,r1,k1,L2,r2,k2,z1,z2,z3,z4,z5,z6,z7,z8,z9⟩
  exact ⟨b1,L1,D1,r1,k1,L2,r2,k2,z1,z2,z3,z4,z5,by omega,by omega,z8,z9⟩
 generalize hX:A1*(val ys2:Nat)+A2*(val ys1:Nat)=X at *
 have HX:=hid hX
 generalize val ys1*val ys2=Y at *
 generalize hP1:A1*(val ys2:Nat)=P1 at *
 generalize hP2:A2*(val ys1:Nat)=P2 at *
 clear h1 g1 h2 g2 y1 y2 y0 eA1 eA2 sgf hX
 go_enter Tryz.func44,Tryz.ntmps44
 go_wp2_with fail
 refine M1.out.mono ?_
 rintro e w1 ⟨bx,Lx,Dx,rx,kx,rfl,C1,Sx,Nx,lx⟩
 replace a2:=yac a2 C1
 replace a3:=yac a3 C1
 replace e0:=yac e0 C1
 replace e1:=yac e1 C1
 replace e2:=yac e2 C1
 replace e3:=yac e3 C1
 replace HI:=hid (HI.out.call C1)
 have C2:=yam w1 (.cells #[.bool bx,.slice rx Lx kx] 24)
 have Xx:=ybw w1 bx rx Lx kx
 obtain ⟨W1,hW1⟩:∃ W1,w1.alloc (.cells #[.bool bx,.slice rx Lx kx] 24)=W1:=⟨_,rfl⟩
 rw [hW1] at C2 Xx
 obtain ⟨gx,hgx⟩:∃ gx,w1.heap.size=gx:=⟨_,rfl⟩
 rw [hgx] at Xx
 have x0:=Xx.at0
 have x1:=Xx.at1
 have hI1:=HI.out.lt
 replace a2:=yac a2 C2
 replace a3:=yac a3 C2
 replace e0:=yac e0 C2
 replace e1:=yac e1 C2
 replace e2:=yac e2 C2
 replace e3:=yac e3 C2
 replace HI:=hid (HI.out.call C2)
 replace Sx:=hid (Sx.out.below C2)
 clear C1 C2 Xx hW a0 a1 M1
 go_wp2_with fail
 refine (M2.out W1 HI.out.below).mono ?_
 rintro e w2 ⟨by',Ly,Dy,ry,ky,rfl,C3,Sy,Ny,ly⟩
 replace a2:=yac a2 C3
 replace a3:=yac a3 C3
 replace e2:=yac e2 C3
 replace e3:=yac e3 C3
 replace x0:=yac x0 C3
 replace x1:=yac x1 C3
 replace HI:=hid (HI.out.call C3)
 replace Sx:=hid (Sx.out.below C3)
 have C4:=yam w2 (.cells #[.bool by',.slice ry Ly ky] 24)
 have Xy:=ybw w2 by' ry Ly ky
 obtain ⟨W2,hW2⟩:∃ W2,w2.alloc (.cells #[.bool by',.slice ry Ly ky] 24)=W2:=⟨_,rfl⟩
 rw [hW2] at C4 Xy
 obtain ⟨gy,hgy⟩:∃ gy,w2.heap.size=gy:=⟨_,rfl⟩
 rw [hgy] at Xy
 have z0:=Xy.at0
 have z1:=Xy.at1
 have hI2':=HI.out.lt
 replace a2:=yac a2 C4
 replace a3:=yac a3 C4
 replace e2:=yac e2 C4
 replace e3:=yac e3 C4
 replace x0:=yac x0 C4
 replace x1:=yac x1 C4
 replace HI:=hid (HI.out.call C4)
 replace Sx:=hid (Sx.out.below C4)
 replace Sy:=hid (Sy.out.below C4)
 clear C3 C4 Xy hW1 e0 e1 M2
 have u0:g+1+1≠g:=by omega
 have u1:g+1+1≠g+1:=by omega
 have u2:g+1+1≠gx:=by omega
 have u3:g+1+1≠gy:=by omega
 go_wp2
 go_region_held3 (fun w'=>w'.cell? ⟨g,2,none⟩=some (.bool false)/\w'.cell? ⟨g,3,none⟩=some (.slice q1 m1 d1)/\w'.cell? ⟨g+1,2,none⟩=some (.bool false)/\w'.cell? ⟨g+1,3,none⟩=some (.slice q2 m2 d2)/\w'.cell? ⟨gx,0,none⟩=some (.bool bx)/\w'.cell? ⟨gx,1,none⟩=some (.slice rx Lx kx)/\w'.cell? ⟨gy,0,none⟩=some (.bool by')/\w'.cell? ⟨gy,1,none⟩=some (.slice ry Ly ky)/\Hid (RInv w w' (g+1+1)))
  (first | (with_reducible exact keepR8 (by assumption) hBz) | (with_reducible exact keepR8s (by assumption) u0 u0 u1 u1 u2 u2 u3 u3) | (exact ⟨a2,a3,e2,e3,x0,x1,z0,z1,HI.out.drew⟩) | fail)
  (first | (go_at_call 33; refine (zea _ bx by' rx ry Lx kx Ly ky Dx Dy P1 P2 Nx.out.sg Ny.out.sg (Sx.out.below (Below.refl _ _).drew) (Sy.out.below (Below.refl _ _).drew) (by omega) (by omega)).mono ?_; rintro e wa ⟨bs,Ls,Ds,rs,ks,rfl,hBz,Ss,Ns,ls⟩)
         | (go_at_call 79; refine (DM.out _ (invR8 (by assumption)).below).mono ?_; rintro e wb ⟨Ld,rd,kd,rfl,hBz,Sd,ld⟩; have Ss2:=hid (Ss.out.below hBz))
         | (go_at_call 50; refine (MK.out _ bs Ls Ds rs ks Ld rd kd Ss2.out (HX.out ▸ Ns.out) Sd.out (by omega) (by omega)).mono ?_; rintro e w9 ⟨b2,L2,D2,r2,k2,L3,r3,k3,rfl,hBz,S2,S3,N2,l2,l3,f2,f3⟩; have hlt:=hid (RInv.lt (invR8 (w:=w) (g2:=g+1+1) (by assumption))); have hI2:=hid ((invR8 (w:=w) (g2:=g+1+1) (by assumption)).call hBz); obtain ⟨i1,i2,i3,i4,i5,i6,i7,i8,hx3⟩:=hI2.out.box; have k0:=hx3.at0; have k1:=hx3.at1; have k2':=hx3.at2; have k3':=hx3.at3; have k4:=hx3.frozen 0; have k5:=hx3.frozen 1; have k6:=hx3.frozen 2; have k7:=hx3.frozen 3))
 go_wp2
 have hc:=hx3.set b2 r2 L2 k2 false r3 L3 k3
 have hc0:=hc.at0
 have hc1:=hc.at1
 have hc2:=hc.at2
 have hc3:=hc.at3
 refine bodyPost_ret (by simp [results,Tryz.results44,go_sem,hc0,hc1,hc2,hc3]; try rfl) rfl ?_
 exact yut hI2.out hlt.out S2 S3 N2 l2 l3 f2 f3
theorem yus (w:World)(s1:Bool)(p1:Option Addr)(n1 c1:Nat)(xs1:List Nat)(q1:Option Addr)(m1 d1:Nat)(ys1:List Nat)(s2:Bool)(p2:Option Addr)(n2 c2:Nat)(xs2:List Nat)(q2:Option Addr)(m2 d2:Nat)(ys2:List Nat)
  (h1:Sl w p1 n1 c1 xs1) (g1:Sl w q1 m1 d1 ys1) (h2:Sl w p2 n2 c2 xs2) (g2:Sl w q2 m2 d2 ys2) (y1:val ys1≠0) (y2:val ys2≠0) (A1 A2:Int) (eA1:sg s1 (val xs1)=A1) (eA2:sg s2 (val xs2)=A2)
  (b1:n1<=8388608) (b2:m1<=8388608) (b3:n2<=8388608) (b4:m2<=8388608):
  Calls Tryz.prog 22 #[.agg #[.bool s1,.slice p1 n1 c1,.bool false,.slice q1 m1 d1],.agg #[.bool s2,.slice p2 n2 c2,.bool false,.slice q2 m2 d2]] w (Rt w (nR (A1*(dR (-A2) (val ys2):Nat)+nR (-A2) (val ys2)*(val ys1:Nat)) (val ys1*dR (-A2) (val ys2))) (dR (A1*(dR (-A2) (val ys2):Nat)+nR (-A2) (val ys2)*(val ys1:Nat)) (val ys1*dR (-A2) (val ys2))) 67108864 67108864):=by
 obtain ⟨W,g,hg,hW,a0,a1,a2,a3,e0,e1,e2,e3,HI⟩:=renter2 w s1 p1 n1 c1 false q1 m1 d1 s2 p2 n2 c2 false q2 m2 d2
 have NG:Hid (∀ W',Below w.heap.size w W'->Calls Tryz.prog 49 #[.agg #[.bool s2,.slice p2 n2 c2,.bool false,.slice q2 m2 d2]] W' (Rt W' (nR (-A2) (val ys2)) (dR (-A2) (val ys2)) n2 m2)):=by
  intro W' hb
  have:=zee W' s2 p2 q2 n2 c2 m2 d2 xs2 ys2 (h2.below hb) (g2.below hb) y2 (by omega) (by omega)
  rwa [eA2] at this
 have y3:dR (-A2) (val ys2)≠0:=yf3 y2
 have AD:Hid (∀ W' (b:Bool) (L:Nat) (D:List Nat) (r:Option Addr) (cr L':Nat) (r':Option Addr) (cr':Nat),Below w.heap.size w W'->Sl W' r L cr D->Nm b L D (nR (-A2) (val ys2))->Sl W' r' L' cr' (digs (dR (-A2) (val ys2)))->L<=n2->L'<=m2 →
   Calls Tryz.prog 44 #[.agg #[.bool s1,.slice p1 n1 c1,.bool false,.slice q1 m1 d1],.agg #[.bool b,.slice r L cr,.bool false,.slice r' L' cr']] W' (Rt W' (nR (A1*(dR (-A2) (val ys2):Nat)+nR (-A2) (val ys2)*(val ys1:Nat)) (val ys1*dR (-A2) (val ys2))) (dR (A1*(dR (-A2) (val ys2):Nat)+nR (-A2) (val ys2)*(val ys1:Nat)) (val ys1*dR (-A2) (val ys2))) 67108864 67108864)):=by
  intro W' b L D r cr L' r' cr' hb hr hN hr' hl hl'
  have:=yur W' s1 p1 n1 c1 xs1 q1 m1 d1 ys1 b r L cr D r' L' cr' (digs (dR (-A2) (val ys2))) (h1.below hb) (g1.below hb) hr hr' y1 (by rw [yaf]; exact y3) A1 _ eA1 hN.sg b1 b2 (by omega) (by omega)
  rwa [yaf] at this
 generalize nR (A1*(dR (-A2) (val ys2):Nat)+nR (-A2) (val ys2)*(val ys1:Nat)) (val ys1*dR (-A2) (val ys2))=NN at *
 generalize dR (A1*(dR (-A2) (val ys2):Nat)+nR (-A2) (val ys2)*(val ys1:Nat)) (val ys1*dR (-A2) (val ys2))=DD at *
 generalize nR (-A2) (val ys2)=N1 at *
 generalize dR (-A2) (val ys2)=D1 at *
 clear h1 g1 h2 g2 y1 y2 y3 eA1 eA2
 have u0:g+1+1≠g:=by omega
 have u1:g+1+1≠g+1:=by omega
 go_enter Tryz.func22,Tryz.ntmps22
 go_wp2
 go_region_held3 (fun w'=>w'.cell? ⟨g,0,none⟩=some (.bool s1)/\w'.cell? ⟨g,1,none⟩=some (.slice p1 n1 c1)/\w'.cell? ⟨g,2,none⟩=some (.bool false)/\w'.cell? ⟨g,3,none⟩=some (.slice q1 m1 d1)/\w'.cell? ⟨g+1,0,none⟩=some (.bool s2)/\w'.cell? ⟨g+1,1,none⟩=some (.slice p2 n2 c2)/\w'.cell? ⟨g+1,2,none⟩=some (.bool false)/\w'.cell? ⟨g+1,3,none⟩=some (.slice q2 m2 d2)/\Hid (RInv w w' (g+1+1)))
  (first | (with_reducible exact keepR8 (by assumption) hBz) | (with_reducible exact keepR8s (by assumption) u0 u0 u0 u0 u1 u1 u1 u1) | (exact ⟨a0,a1,a2,a3,e0,e1,e2,e3,HI.out.drew⟩) | fail)
  (first | (go_at_call 49; refine (NG.out _ (invR8 (by assumption)).below).mono ?_; rintro e wa ⟨b4',L4,D4,r4,k4',L5,r5,k5',rfl,hBz,S4,S5,N4,l4,l5,f4,f5⟩)
         | (go_at_call 44; refine (AD.out _ b4' L4 D4 r4 k4' L5 r5 k5' (invR8 (by assumption)).below S4.out N4.out S5.out l4 l5).mono ?_; rintro e w9 ⟨b2',L2,D2,r2,k2,L3,r3,k3,rfl,hBz,S2,S3,N2,l2,l3,f2,f3⟩; have hlt:=hid (RInv.lt (invR8 (w:=w) (g2:=g+1+1) (by assumption))); have hI2:=hid ((invR8 (w:=w) (g2:=g+1+1) (by assumption)).call hBz); obtain ⟨i1,i2,i3,i4,i5,i6,i7,i8,hx3⟩:=hI2.out.box; have k0:=hx3.at0; have k1:=hx3.at1; have k2':=hx3.at2; have k3':=hx3.at3; have k4:=hx3.frozen 0; have k5:=hx3.frozen 1; have k6:=hx3.frozen 2; have k7:=hx3.frozen 3))
 go_wp2
 have hc:=hx3.set b2' r2 L2 k2 false r3 L3 k3
 have hc0:=hc.at0
 have hc1:=hc.at1
 have hc2:=hc.at2
 have hc3:=hc.at3
 refine bodyPost_ret (by simp [results,Tryz.results22,go_sem,hc0,hc1,hc2,hc3]; try rfl) rfl ?_
 exact yut hI2.out hlt.out S2 S3 N2 l2 l3 f2 f3
theorem renter2b (w:World)(s1:Bool)(p1:Option Addr)(n1 c1:Nat)(t1:Bool)(q1:Option Addr)(m1 d1:Nat)(s2:Bool)(p2:Option Addr)(n2 c2:Nat)(t2:Bool)(q2:Option Addr)(m2 d2:Nat):
  ∃ W g,w.heap.size=g/\(w.alloc (.cells #[.bool s1,.slice p1 n1 c1,.bool t1,.slice q1 m1 d1] 26)).alloc (.cells #[.bool s2,.slice p2 n2 c2,.bool t2,.slice q2 m2 d2] 26)=W ∧
   W.cell? ⟨g,0,none⟩=some (.bool s1)/\W.cell? ⟨g,1,none⟩=some (.slice p1 n1 c1)/\W.cell? ⟨g,2,none⟩=some (.bool t1)/\W.cell? ⟨g,3,none⟩=some (.slice q1 m1 d1) ∧
   W.cell? ⟨g+1,0,none⟩=some (.bool s2)/\W.cell? ⟨g+1,1,none⟩=some (.slice p2 n2 c2)/\W.cell? ⟨g+1,2,none⟩=some (.bool t2)/\W.cell? ⟨g+1,3,none⟩=some (.slice q2 m2 d2)/\Hid (Below w.heap.size w W):=by
 have B1:=yam w (.cells #[.bool s1,.slice p1 n1 c1,.bool t1,.slice q1 m1 d1] 26)
 have B2:=yam (w.alloc (.cells #[.bool s1,.slice p1 n1 c1,.bool t1,.slice q1 m1 d1] 26)) (.cells #[.bool s2,.slice p2 n2 c2,.bool t2,.slice q2 m2 d2] 26)
 have X1:=(yc2 w s1 p1 n1 c1 t1 q1 m1 d1).below B2
 have X2:=yc2 (w.alloc (.cells #[.bool s1,.slice p1 n1 c1,.bool t1,.slice q1 m1 d1] 26)) s2 p2 n2 c2 t2 q2 m2 d2
 rw [show (w.alloc (.cells #[.bool s1,.slice p1 n1 c1,.bool t1,.slice q1 m1 d1] 26)).heap.size=w.heap.size+1 from by simp] at X2
 exact ⟨_,_,rfl,rfl,X1.at0,X1.at1,X1.at2,X1.at3,X2.at0,X2.at1,X2.at2,X2.at3,B1.trans (B2.mono B1.size)⟩
theorem za4 (w:World)(s1:Bool)(p1:Option Addr)(n1 c1:Nat)(xs1:List Nat)(q1:Option Addr)(m1 d1:Nat)(ys1:List Nat)(s2:Bool)(p2:Option Addr)(n2 c2:Nat)(xs2:List Nat)(q2:Option Addr)(m2 d2:Nat)(ys2:List Nat)
  (h1:Sl w p1 n1 c1 xs1) (g1:Sl w q1 m1 d1 ys1) (h2:Sl w p2 n2 c2 xs2) (g2:Sl w q2 m2 d2 ys2) (y1:val ys1≠0) (y2:val ys2≠0)
  (b1:n1<=8388608) (b2:m1<=8388608) (b3:n2<=8388608) (b4:m2<=8388608):
  Calls Tryz.prog 24 #[.agg #[.bool s1,.slice p1 n1 c1,.bool false,.slice q1 m1 d1],.agg #[.bool s2,.slice p2 n2 c2,.bool false,.slice q2 m2 d2]] w fun e w'=>e=.returned (.int .i64 (sg s1 (val xs1)*(val ys2:Nat)-sg s2 (val xs2)*(val ys1:Nat)).sign)/\Below w.heap.size w w':=by
 obtain ⟨W,g,hg,hW,a0,a1,a2,a3,e0,e1,e2,e3,HB⟩:=renter2b w s1 p1 n1 c1 false q1 m1 d1 s2 p2 n2 c2 false q2 m2 d2
 have SU:=hid (yus W s1 p1 n1 c1 xs1 q1 m1 d1 ys1 s2 p2 n2 c2 xs2 q2 m2 d2 ys2 (h1.below HB.out) (g1.below HB.out) (h2.below HB.out) (g2.below HB.out) y1 y2 _ _ rfl rfl b1 b2 b3 b4)
 rw [← yw6 _ _ _ _ y1 y2]
 generalize nR (sg s1 (val xs1)*(dR (-sg s2 (val xs2)) (val ys2):Nat)+nR (-sg s2 (val xs2)) (val ys2)*(val ys1:Nat)) (val ys1*dR (-sg s2 (val xs2)) (val ys2))=NN at *
 generalize dR (sg s1 (val xs1)*(dR (-sg s2 (val xs2)) (val ys2):Nat)+nR (-sg s2 (val xs2)) (val ys2)*(val ys1:Nat)) (val ys1*dR (-sg s2 (val xs2)) (val ys2))=DD at *
 clear h1 g1 h2 g2 y1 y2
 go_enter Tryz.func24,Tryz.ntmps24
 go_wp2_with fail
 refine SU.out.mono ?_
 rintro e w1 ⟨b2',L2,D2,r2,k2,L3,r3,k3,rfl,hBz,S2,S3,N2,l2,l3,f2,f3⟩
 have SG:=yiu w1 b2' r2 L2 k2 D2 S2.out (by omega)
 rw [N2.out.sg] at SG
 have HSG:=hid SG
 have HF:=hid (HB.out.trans (hBz.mono HB.out.size))
 have FD:(Instr.field 26 (.agg #[.bool b2',.slice r2 L2 k2,.bool false,.slice r3 L3 k3]) 0).run Tryz.prog w1=.ok (.agg #[.bool b2',.slice r2 L2 k2]) w1:=by
  rfl
 clear SG hBz S2 S3 N2 SU
 go_wp2_with fail
 refine HSG.out.mono ?_
 rintro e w2 ⟨rfl,hB2⟩
 have HG:=hid (HF.out.trans (hB2.mono HF.out.size))
 clear hB2
 go_wp2
 go_ret
 exact ⟨rfl,HG.out⟩
theorem mayBe1 (w:World)(g:Nat)(s1:Bool)(p1:Option Addr)(n1 c1:Nat)(t1:Bool)(q1:Option Addr)(m1 d1:Nat)(ys1:List Nat)(hb:RBox w g s1 p1 n1 c1 t1 q1 m1 d1)(h1:Sl w q1 m1 d1 ys1)(hs:m1<=70368744177664)(k:Bool)(hk:k=decide (0 < (sg t1 (val ys1)).sign)):
  Calls Tryz.prog 75 #[.slice (some ⟨g,0,none⟩) 1 1] w fun e w'=>e=.returned (.bool k)/\Below w.heap.size w w':=by
 have b0:=hb.at0
 have b1:=hb.at1
 have b2:=hb.at2
 have b3:=hb.at3
 have SG:Hid (∀ W',Below w.heap.size w W'->Calls Tryz.prog 43 #[.agg #[.bool t1,.slice q1 m1 d1]] W' fun e w'=>e=.returned (.int .i64 (sg t1 (val ys1)).sign)/\Below W'.heap.size W' w'):=fun W' hb=>ygj W' t1 q1 m1 d1 ys1 (h1.below hb) hs
 obtain ⟨z,hz⟩:∃ z,(sg t1 (val ys1)).sign=z:=⟨_,rfl⟩
 rw [hz] at SG hk
 clear h1 hb hz
 cases k with
 | true =>
  have hz:0 < z:=of_decide_eq_true hk.symm
  have hz':¬ z<=0:=by omega
  clear hk
  go_enter Tryz.func75,Tryz.ntmps75
  go_wp2
  go_loopw [7] (fun i wr=>(i=.int .i64 0/\wr=w)\/(i=.int .i64 1/\Hid (Below w.heap.size w wr))) (fun i _=>1-(intOf i).toNat)
  case atStart=>exact Or.inl ⟨rfl,rfl⟩
  case round =>
   rcases hrel with ⟨rfl,rfl⟩ | ⟨rfl,HB⟩
   ·go_wp2_with (go_at_call 43; refine (SG.out _ (yam _ _)).mono ?_; rintro e w1 ⟨rfl,hB⟩)
    go_roundw
    case rel=>exact Or.inr ⟨rfl,(yam _ _).trans (hB.mono (by simp))⟩
    case measure=>simp [intOf]
   ·go_wp2
    go_ret
    exact ⟨rfl,HB.out⟩
 | false =>
  have hz:z<=0:=by have:=of_decide_eq_false hk.symm; omega
  clear hk
  go_enter Tryz.func75,Tryz.ntmps75
  go_wp2
  go_loopw [7] (fun i wr=>i=.int .i64 0/\wr=w) (fun _ _=>1)
  case atStart=>exact ⟨rfl,rfl⟩
  case round =>
   obtain ⟨rfl,rfl⟩:=hrel
   go_wp2_with (go_at_call 43; refine (SG.out _ (yam _ _)).mono ?_; rintro e w1 ⟨rfl,hB⟩)
   go_ret
   exact ⟨rfl,(yam _ _).trans (hB.mono (by simp))⟩
theorem keepB8 {w w1 w2:World}{a1 a2 a3 a4 a5 a6 a7 a8:Addr}{v1 v2 v3 v4 v5 v6 v7 v8:Value}(h:w1.cell? a1=some v1/\w1.cell? a2=some v2/\w1.cell? a3=some v3/\w1.cell? a4=some v4/\w1.cell? a5=some v5/\w1.cell? a6=some v6/\w1.cell? a7=some v7/\w1.cell? a8=some v8/\Hid (Below w.heap.size w w1))(hb:Below w1.heap.size w1 w2):w2.cell? a1=some v1/\w2.cell? a2=some v2/\w2.cell? a3=some v3/\w2.cell? a4=some v4/\w2.cell? a5=some v5/\w2.cell? a6=some v6/\w2.cell? a7=some v7/\w2.cell? a8=some v8/\Hid (Below w.heap.size w w2):=
 ⟨yac h.1 hb,yac h.2.1 hb,yac h.2.2.1 hb,yac h.2.2.2.1 hb,yac h.2.2.2.2.1 hb,yac h.2.2.2.2.2.1 hb,yac h.2.2.2.2.2.2.1 hb,yac h.2.2.2.2.2.2.2.1 hb,Below.trans h.2.2.2.2.2.2.2.2 (hb.mono (Below.size h.2.2.2.2.2.2.2.2))⟩
theorem belB8 {A1 A2 A3 A4 A5 A6 A7 A8:Prop}{w w':World}(h:A1/\A2/\A3/\A4/\A5/\A6/\A7/\A8/\Hid (Below w.heap.size w w')):Below w.heap.size w w':=h.2.2.2.2.2.2.2.2
def RBox2 (w:World)(g:Nat)(s1:Bool)(p1:Option Addr)(n1 c1:Nat)(t1:Bool)(q1:Option Addr)(m1 d1:Nat)(s2:Bool)(p2:Option Addr)(n2 c2:Nat)(t2:Bool)(q2:Option Addr)(m2 d2:Nat):Prop:=
 w.heap[g]? = some (.cells #[.bool s1,.slice p1 n1 c1,.bool t1,.slice q1 m1 d1,.bool s2,.slice p2 n2 c2,.bool t2,.slice q2 m2 d2] 26)
theorem at8 {w:World}{g i:Nat}{cs:Array Value}{t:TypeId}(h:w.heap[g]? = some (.cells cs t)):w.cell? ⟨g,i,none⟩=cs[i]?:=by simp [World.cell?,h]
theorem mayBe2 (w:World)(g:Nat)(s1:Bool)(p1:Option Addr)(n1 c1:Nat)(t1:Bool)(q1:Option Addr)(m1 d1:Nat)(s2:Bool)(p2:Option Addr)(n2 c2:Nat)(t2:Bool)(q2:Option Addr)(m2 d2:Nat)(ys1 ys2:List Nat)
  (hb:RBox2 w g s1 p1 n1 c1 t1 q1 m1 d1 s2 p2 n2 c2 t2 q2 m2 d2) (h1:Sl w q1 m1 d1 ys1) (h2:Sl w q2 m2 d2 ys2) (hs:m1<=70368744177664) (hs':m2<=70368744177664) (k:Bool) (hk:k=(decide (0 < (sg t1 (val ys1)).sign) && decide (0 < (sg t2 (val ys2)).sign))):
  Calls Tryz.prog 75 #[.slice (some ⟨g,0,none⟩) 2 2] w fun e w'=>e=.returned (.bool k)/\Below w.heap.size w w':=by
 have b0:w.cell? ⟨g,0,none⟩=some (.bool s1):=at8 hb
 have b1:w.cell? ⟨g,1,none⟩=some (.slice p1 n1 c1):=at8 hb
 have b2:w.cell? ⟨g,2,none⟩=some (.bool t1):=at8 hb
 have b3:w.cell? ⟨g,3,none⟩=some (.slice q1 m1 d1):=at8 hb
 have b4:w.cell? ⟨g,4,none⟩=some (.bool s2):=at8 hb
 have b5:w.cell? ⟨g,5,none⟩=some (.slice p2 n2 c2):=at8 hb
 have b6:w.cell? ⟨g,6,none⟩=some (.bool t2):=at8 hb
 have b7:w.cell? ⟨g,7,none⟩=some (.slice q2 m2 d2):=at8 hb
 have SG1:Hid (∀ W',Below w.heap.size w W'->Calls Tryz.prog 43 #[.agg #[.bool t1,.slice q1 m1 d1]] W' fun e w'=>e=.returned (.int .i64 (sg t1 (val ys1)).sign)/\Below W'.heap.size W' w'):=fun W' hb=>ygj W' t1 q1 m1 d1 ys1 (h1.below hb) hs
 have SG2:Hid (∀ W',Below w.heap.size w W'->Calls Tryz.prog 43 #[.agg #[.bool t2,.slice q2 m2 d2]] W' fun e w'=>e=.returned (.int .i64 (sg t2 (val ys2)).sign)/\Below W'.heap.size W' w'):=fun W' hb=>ygj W' t2 q2 m2 d2 ys2 (h2.below hb) hs'
 obtain ⟨z,hz⟩:∃ z,(sg t1 (val ys1)).sign=z:=⟨_,rfl⟩
 obtain ⟨y,hy⟩:∃ y,(sg t2 (val ys2)).sign=y:=⟨_,rfl⟩
 rw [hz] at SG1 hk
 rw [hy] at SG2 hk
 clear h1 h2 hb hz hy
 by_cases hz:z<=0
 ·obtain rfl:k=false:=by rw [hk,decide_eq_false (by omega)]; rfl
  clear hk
  go_enter Tryz.func75,Tryz.ntmps75
  go_wp2
  go_loopw [7] (fun i wr=>i=.int .i64 0/\wr=w) (fun _ _=>1)
  case atStart=>exact ⟨rfl,rfl⟩
  case round =>
   obtain ⟨rfl,rfl⟩:=hrel
   go_wp2_with (go_at_call 43; refine (SG1.out _ (yam _ _)).mono ?_; rintro e w1 ⟨rfl,hB⟩)
   go_ret
   exact ⟨rfl,(yam _ _).trans (hB.mono (by simp))⟩
 ·by_cases hy:y<=0
  ·obtain rfl:k=false:=by rw [hk,decide_eq_false (p:=0 < y) (by omega)]; simp
   clear hk
   go_enter Tryz.func75,Tryz.ntmps75
   go_wp2
   go_loopw [7] (fun i wr=>(i=.int .i64 0/\wr=w)\/(i=.int .i64 1/\Hid (Below w.heap.size w wr))) (fun i _=>2-(intOf i).toNat)
   case atStart=>exact Or.inl ⟨rfl,rfl⟩
   case round =>
    rcases hrel with ⟨rfl,rfl⟩ | ⟨rfl,HB⟩
    ·go_wp2_with (go_at_call 43; refine (SG1.out _ (yam _ _)).mono ?_; rintro e w1 ⟨rfl,hB⟩)
     go_roundw
     case rel=>exact Or.inr ⟨rfl,(yam _ _).trans (hB.mono (by simp))⟩
     case measure=>simp [intOf]
    ·replace b4:=yac b4 HB.out
     replace b5:=yac b5 HB.out
     replace b6:=yac b6 HB.out
     replace b7:=yac b7 HB.out
     go_wp2_with (go_at_call 43; refine (SG2.out _ (HB.out.trans ((yam _ _).mono HB.out.size))).mono ?_; rintro e w1 ⟨rfl,hB⟩)
     go_ret
     exact ⟨rfl,HB.out.trans (((yam _ _).trans (hB.mono (by simp))).mono HB.out.size)⟩
  ·obtain rfl:k=true:=by rw [hk,decide_eq_true (p:=0 < y) (by omega),decide_eq_true (p:=0 < z) (by omega)]; rfl
   clear hk
   go_enter Tryz.func75,Tryz.ntmps75
   go_wp2
   go_loopw [7] (fun i wr=>(i=.int .i64 0/\wr=w)\/(i=.int .i64 1/\Hid (Below w.heap.size w wr))\/(i=.int .i64 2/\Hid (Below w.heap.size w wr))) (fun i _=>2-(intOf i).toNat)
   case atStart=>exact Or.inl ⟨rfl,rfl⟩
   case round =>
    rcases hrel with ⟨rfl,rfl⟩ | ⟨rfl,HB⟩ | ⟨rfl,HB⟩
    ·go_wp2_with (go_at_call 43; refine (SG1.out _ (yam _ _)).mono ?_; rintro e w1 ⟨rfl,hB⟩)
     go_roundw
     case rel=>exact Or.inr (Or.inl ⟨rfl,(yam _ _).trans (hB.mono (by simp))⟩)
     case measure=>simp [intOf]
    ·replace b4:=yac b4 HB.out
     replace b5:=yac b5 HB.out
     replace b6:=yac b6 HB.out
     replace b7:=yac b7 HB.out
     go_wp2_with (go_at_call 43; refine (SG2.out _ (HB.out.trans ((yam _ _).mono HB.out.size))).mono ?_; rintro e w1 ⟨rfl,hB⟩)
     go_roundw
     case rel=>exact Or.inr (Or.inr ⟨rfl,HB.out.trans (((yam _ _).trans (hB.mono (by simp))).mono HB.out.size)⟩)
     case measure=>simp [intOf]
    ·go_wp2
     go_ret
     exact ⟨rfl,HB.out⟩
theorem yub (w:World)(s1:Bool)(p1:Option Addr)(n1 c1:Nat)(xs1:List Nat)(q1:Option Addr)(m1 d1:Nat)(s2:Bool)(p2:Option Addr)(n2 c2:Nat)(xs2:List Nat)(q2:Option Addr)(m2 d2:Nat)(ys1 ys2:List Nat)
  (g1:Sl w p1 n1 c1 xs1) (g2:Sl w p2 n2 c2 xs2) (h1:Sl w q1 m1 d1 ys1) (h2:Sl w q2 m2 d2 ys2) (y1:val ys1≠0) (y2:val ys2≠0) (b1:n1<=8388608) (b2:m1<=8388608) (b3:n2<=8388608) (b4:m2<=8388608):
  Calls Tryz.prog 40 #[.agg #[.bool s1,.slice p1 n1 c1,.bool false,.slice q1 m1 d1],.agg #[.bool s2,.slice p2 n2 c2,.bool false,.slice q2 m2 d2]] w fun e w'=>e=.returned (.tuple #[.int .i64 (sg s1 (val xs1)*(val ys2:Nat)-sg s2 (val xs2)*(val ys1:Nat)).sign,.int .i64 0])/\Below w.heap.size w w':=by
 obtain ⟨W,g,hg,hW,a0,a1,a2,a3,e0,e1,e2,e3,HB⟩:=renter2b w s1 p1 n1 c1 false q1 m1 d1 s2 p2 n2 c2 false q2 m2 d2
 have B3:=yam W (.cells #[.bool s1,.slice p1 n1 c1,.bool false,.slice q1 m1 d1,.bool s2,.slice p2 n2 c2,.bool false,.slice q2 m2 d2] 26)
 have HB3:=hid (HB.out.trans (B3.mono HB.out.size))
 have MB:=hid (mayBe2 _ _ s1 p1 n1 c1 false q1 m1 d1 s2 p2 n2 c2 false q2 m2 d2 ys1 ys2 (heap_alloc_last W _) (h1.below HB3.out) (h2.below HB3.out) (by omega) (by omega) true (by rw [ye4 y1,ye4 y2]; rfl))
 have sgf:∀ y:Nat,sg false y=(y:Int):=fun y=>by unfold sg; simp
 have M1:Hid (∀ W',Below w.heap.size w W'->_):=fun W' hb=>yzc W' s1 false p1 q2 n1 c1 m2 d2 xs1 ys2 (sg s1 (val xs1)) (val ys2:Nat) rfl (sgf _) (g1.below hb) (h2.below hb) (by omega)
 have M2:Hid (∀ W',Below w.heap.size w W'->_):=fun W' hb=>yzc W' s2 false p2 q1 n2 c2 m1 d1 xs2 ys1 (sg s2 (val xs2)) (val ys1:Nat) rfl (sgf _) (g2.below hb) (h1.below hb) (by omega)
 have d0:=yac a0 B3
 have d1':=yac a1 B3
 have d2':=yac a2 B3
 have d3:=yac a3 B3
 have f0:=yac e0 B3
 have f1:=yac e1 B3
 have f2:=yac e2 B3
 have f3:=yac e3 B3
 generalize sg s1 (val xs1)*(val ys2:Nat)=P1 at *
 generalize sg s2 (val xs2)*(val ys1:Nat)=P2 at *
 obtain ⟨z,hz⟩:∃ z,(P1-P2).sign=z:=⟨_,rfl⟩
 rw [hz]
 have HZ:=hid hz
 clear g1 g2 h1 h2 y1 y2 B3 sgf hz
 go_enter Tryz.func40,Tryz.ntmps40
 go_wp2_with fail
 refine MB.out.mono ?_
 rintro e w1 ⟨rfl,hB⟩
 have HF:=hid (HB3.out.trans (hB.mono HB3.out.size))
 replace d0:=yac d0 hB
 replace d1':=yac d1' hB
 replace d2':=yac d2' hB
 replace d3:=yac d3 hB
 replace f0:=yac f0 hB
 replace f1:=yac f1 hB
 replace f2:=yac f2 hB
 replace f3:=yac f3 hB
 clear hB MB a0 a1 a2 a3 e0 e1 e2 e3 hW
 go_wp2
 go_region_held3 (fun w'=>w'.cell? ⟨g,0,none⟩=some (.bool s1)/\w'.cell? ⟨g,1,none⟩=some (.slice p1 n1 c1)/\w'.cell? ⟨g,2,none⟩=some (.bool false)/\w'.cell? ⟨g,3,none⟩=some (.slice q1 m1 d1)/\w'.cell? ⟨g+1,0,none⟩=some (.bool s2)/\w'.cell? ⟨g+1,1,none⟩=some (.slice p2 n2 c2)/\w'.cell? ⟨g+1,2,none⟩=some (.bool false)/\w'.cell? ⟨g+1,3,none⟩=some (.slice q2 m2 d2)/\Hid (Below w.heap.size w w'))
  (first | (with_reducible exact keepB8 (by assumption) hBz) | (exact ⟨d0,d1',d2',d3,f0,f1,f2,f3,HF.out.drew⟩) | fail)
  (first | (go_at_call_of 71 (Value.slice p1 n1 c1); refine (M1.out _ (belB8 (by assumption))).mono ?_; rintro e wa ⟨bA,LA,DA,rA,kA,rfl,hBz,SA,NA,lA⟩)
         | (go_at_call_of 71 (Value.slice p2 n2 c2); refine (M2.out _ (belB8 (by assumption))).mono ?_; rintro e wb ⟨bB,LB,DB,rB,kB,rfl,hBz,SB,NB,lB⟩; have SA2:=hid (SA.out.below hBz))
         | (go_at_call 76; refine (ykz _ bA bB rA rB LA kA LB kB DA DB SA2.out SB.out (by omega) (by omega)).mono ?_; rintro e wc ⟨rfl,hBz⟩; have HT:=hid (keepB8 (w:=w) (by assumption) hBz)))
 go_wp2
 go_ret2
 first | exact ⟨by rw [NA.out.sg,NB.out.sg,HZ.out]; rfl,belB8 HT.out⟩ | exact ⟨by rw [NA.out.sg,NB.out.sg,HZ.out]; rfl,by rw [← hg]; exact belB8 HT.out⟩
end Go.Proofs.YtdnindaohpdblaaGreat
