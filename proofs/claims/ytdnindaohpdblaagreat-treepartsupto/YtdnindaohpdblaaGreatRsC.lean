import Derived.Test.YtdnindaohpdblaaGreatSetP
import Derived.Deep.LoopGhost
import Derived.Test.YtdnindaohpdblaaGreatSetI
set_option linter.all false
namespace Go.Proofs.YtdnindaohpdblaaGreat
open Go.RowKit Nt
set_option maxRecDepth 20000
set_option maxHeartbeats 16000000
theorem zeb (w:World)(p q:Option Addr)(n c m d:Nat)(xs ys:List Nat)(h:Sl w p n c xs)(h':Sl w q m d ys)(hs:n+1<=35184372088831)(hs':m+1<=35184372088831):
  Calls Tryz.prog 81 #[.slice p n c,.slice q m d] w fun e w'=>∃ r cr,e=.returned (.slice r (digs (Nat.gcd (val xs) (val ys))).length cr)/\Ans w w' r cr (Nat.gcd (val xs) (val ys)):=by
 have HY:=hid h'
 have N1:=yd1 w p n c xs h (by omega)
 have N2:Hid (∀ W',Below w.heap.size w W'->_):=fun W' hb=>yd1 W' q m d ys (h'.below hb) (by omega)
 have DX:=hid h.dl
 have DY:=hid h'.dl
 obtain ⟨X,hX⟩:∃ X,val xs=X:=⟨_,rfl⟩
 obtain ⟨Y,hY⟩:∃ Y,val ys=Y:=⟨_,rfl⟩
 rw [hX] at N1 DX
 rw [hY] at N2 DY
 rw [hX,hY]
 have HN1:=hid N1
 obtain ⟨G,hG⟩:∃ G,Nat.gcd X Y=G:=⟨_,rfl⟩
 rw [hG]
 have HG:=hid hG
 clear h h' hX hY hG N1 HY
 go_enter Tryz.func81,Tryz.ntmps81
 go_wp2_with fail
 refine HN1.out.mono ?_
 rintro e w1 ⟨r1,c1,rfl,A1⟩
 have HA1:=hid A1
 clear A1 HN1
 go_wp2_with fail
 refine (N2.out w1 HA1.out.below).mono ?_
 rintro e w2 ⟨r2,c2,rfl,A2⟩
 have HA2:Hid (Ans w w2 r2 c2 Y):=A2.since HA1.out.below
 have HA3:Hid (Sl w2 r1 (digs X).length c1 (digs X)):=HA1.out.sl.below A2.below
 have HF1:=hid HA1.out.fresh
 clear A2 N2 HA1
 go_wp2
 go_loopg [5,6] Y (fun k xv yv wr=>∃ (X' Y':Nat) (px py:Option Addr) (cx cy:Nat),Y'<=k/\xv=.slice px (digs X').length cx/\yv=.slice py (digs Y').length cy/\Hid (Below w.heap.size w wr/\Sl wr px (digs X').length cx (digs X')/\Sl wr py (digs Y').length cy (digs Y')/\(∀ b o,px=some ⟨b,o,none⟩->w.heap.size<=b)/\(∀ b o,py=some ⟨b,o,none⟩->w.heap.size<=b)/\Nat.gcd X' Y'=G/\(digs X').length+1<=35184372088831/\(digs Y').length+1<=35184372088831))
 case atStart=>exact ⟨X,Y,r1,r2,c1,c2,zha _,rfl,rfl,HA2.out.below,HA3.out,HA2.out.sl,HF1.out,HA2.out.fresh,HG.out,by have:=DX.out; omega,by have:=DY.out; omega⟩
 case round =>
  obtain ⟨X',Y',px,py,cx,cy,hk,rfl,rfl,HR⟩:=hrel
  by_cases h0:Y'=0
  ·subst h0
   rw [show (digs 0).length=0 from rfl]
   obtain ⟨b1,s1,_,f1,_,g1,_,_⟩:=HR.out
   rw [zk2] at g1
   subst g1
   have HA:Hid (Ans w wr px cx X'):=⟨b1,s1,f1⟩
   clear b1 s1 f1 HR
   go_wp2
   go_ret
   exact ⟨px,cx,rfl,HA.out⟩
  ·have hL:=ya2 Y'
   have DVc:=yue wr px py (digs X').length cx (digs Y').length cy (digs X') (digs Y') HR.out.2.1 HR.out.2.2.1 (by rw [yaf]; exact h0) HR.out.2.2.2.2.2.2.1 HR.out.2.2.2.2.2.2.2
   rw [yaf,yaf] at DVc
   have HDV:=hid DVc
   have hmod:=zic X' (zhw h0)
   have hlm:(digs (X' % Y')).length<=(digs Y').length:=yag (zi4 hmod)
   obtain ⟨Lx,hLx⟩:∃ L,(digs X').length=L:=⟨_,rfl⟩
   obtain ⟨Ly,hLy⟩:∃ L,(digs Y').length=L:=⟨_,rfl⟩
   rw [hLx,hLy] at HDV
   rw [hLy] at hL hlm
   have hL0:0 < Ly:=zhw (fun e=>h0 (hL.1 e))
   rw [hLx,hLy]
   have HLX:=hid hLx
   have HLY:=hid hLy
   have HM:=hid hmod
   have HLM:=hid hlm
   clear DVc hL hmod hlm hLx hLy
   go_wp2_with (go_at_call 82; refine HDV.out.mono ?_; rintro e w1 ⟨rq,cq,rs,cs,rfl,A1,A2⟩; have HA:=hid A2; clear A1 A2)
   go_roundg (X' % Y')
   case measure=>have:=HM.out; omega
   case rel =>
    obtain ⟨b1,s1,s2,f1,f2,g1,l1,l2⟩:=HR.out
    refine ⟨Y',X' % Y',py,rs,cy,cs,zha _,by rw [HLY.out],rfl,?_⟩
    refine ⟨b1.trans (HA.out.below.mono b1.size),s2.below HA.out.below,HA.out.sl,f2,fun b o e=>zhb b1.size (HA.out.fresh b o e),?_,l2,?_⟩
    ·rw [← g1,zj8 X' Y',Nat.gcd_rec Y' X',zj8]
    ·have:=HLM.out
     have e:=HLY.out
     omega
def RBox (w:World)(g:Nat)(s:Bool)(p:Option Addr)(n c:Nat)(t:Bool)(q:Option Addr)(m d:Nat):Prop:=w.heap[g]? = some (.cells #[.bool s,.slice p n c,.bool t,.slice q m d] 26)
section
variable {w w':World} {g n c m d:Nat} {s t:Bool} {p q:Option Addr}
theorem RBox.below (h:RBox w g s p n c t q m d)(hb:Below w.heap.size w w'):RBox w' g s p n c t q m d:=(hb.block g (zhf.1 h).1).trans h
theorem RBox.at0 (h:RBox w g s p n c t q m d):w.cell? ⟨g,0,none⟩=some (.bool s):=by have h':w.heap[g]? = _:=h; simp [World.cell?,h']
theorem RBox.at1 (h:RBox w g s p n c t q m d):w.cell? ⟨g,1,none⟩=some (.slice p n c):=by have h':w.heap[g]? = _:=h; simp [World.cell?,h']
theorem RBox.at2 (h:RBox w g s p n c t q m d):w.cell? ⟨g,2,none⟩=some (.bool t):=by have h':w.heap[g]? = _:=h; simp [World.cell?,h']
theorem RBox.at3 (h:RBox w g s p n c t q m d):w.cell? ⟨g,3,none⟩=some (.slice q m d):=by have h':w.heap[g]? = _:=h; simp [World.cell?,h']
theorem RBox.frozen (h:RBox w g s p n c t q m d)(i:Nat):w.frozen? ⟨g,i,none⟩=false:=by have h':w.heap[g]? = _:=h; simp [World.frozen?,h']
theorem RBox.lt (h:RBox w g s p n c t q m d):g < w.heap.size:=(zhf.1 h).1
theorem set4 {w:World}{g:Nat}{a0 a1 a2 a3 b0 b1 b2 b3:Value}{T:TypeId}(h:w.heap[g]? = some (.cells #[a0,a1,a2,a3] T)):
  ((((w.setCell ⟨g,0,none⟩ b0).setCell ⟨g,1,none⟩ b1).setCell ⟨g,2,none⟩ b2).setCell ⟨g,3,none⟩ b3).heap[g]? = some (.cells #[b0,b1,b2,b3] T):=by
 have h1:(w.setCell ⟨g,0,none⟩ b0).heap[g]? = some (.cells #[b0,a1,a2,a3] T):=by
  rw [setCell_eq_setRow w g 0 _ _ _ b0 h]
  simpa using setRow_heap w g _ (#[b0,a1,a2,a3]) _ _ h
 have h2:((w.setCell ⟨g,0,none⟩ b0).setCell ⟨g,1,none⟩ b1).heap[g]? = some (.cells #[b0,b1,a2,a3] T):=by
  rw [setCell_eq_setRow _ g 1 _ _ _ b1 h1]
  simpa using setRow_heap _ g _ (#[b0,b1,a2,a3]) _ _ h1
 have h3:(((w.setCell ⟨g,0,none⟩ b0).setCell ⟨g,1,none⟩ b1).setCell ⟨g,2,none⟩ b2).heap[g]? = some (.cells #[b0,b1,b2,a3] T):=by
  rw [setCell_eq_setRow _ g 2 _ _ _ b2 h2]
  simpa using setRow_heap _ g _ (#[b0,b1,b2,a3]) _ _ h2
 rw [setCell_eq_setRow _ g 3 _ _ _ b3 h3]
 simpa using setRow_heap _ g _ (#[b0,b1,b2,b3]) _ _ h3
theorem RBox.set (h:RBox w g s p n c t q m d)(s':Bool)(p':Option Addr)(n' c':Nat)(t':Bool)(q':Option Addr)(m' d':Nat):
  RBox ((((w.setCell ⟨g,0,none⟩ (.bool s')).setCell ⟨g,1,none⟩ (.slice p' n' c')).setCell ⟨g,2,none⟩ (.bool t')).setCell ⟨g,3,none⟩ (.slice q' m' d')) g s' p' n' c' t' q' m' d':=set4 h
end
theorem yc2 (w:World)(s:Bool)(p:Option Addr)(n c:Nat)(t:Bool)(q:Option Addr)(m d:Nat):RBox (w.alloc (.cells #[.bool s,.slice p n c,.bool t,.slice q m d] 26)) w.heap.size s p n c t q m d:=heap_alloc_last _ _
theorem yen {B:Nat}{a w:World}{g:Nat}{v0 v1 v2 v3:Value}(h:Below B a w)(hg:B<=g):Below B a ((((w.setCell ⟨g,0,none⟩ v0).setCell ⟨g,1,none⟩ v1).setCell ⟨g,2,none⟩ v2).setCell ⟨g,3,none⟩ v3):=
 (((h.setCell hg _).setCell hg _).setCell hg _).setCell hg _
theorem ye8 {w:World}{g2 n c:Nat}{r:Option Addr}{ds:List Nat}{v0 v1 v2 v3:Value}(h:Sl w r n c ds)(ha:∀ b o,r=some ⟨b,o,none⟩->b≠g2):
  Sl ((((w.setCell ⟨g2,0,none⟩ v0).setCell ⟨g2,1,none⟩ v1).setCell ⟨g2,2,none⟩ v2).setCell ⟨g2,3,none⟩ v3) r n c ds:=
 ⟨h.len,h.cap,h.max,h.nil,h.ok,fun i hi=>by
  obtain ⟨b,o,e,hc⟩:=h.lie i hi
  have:=ha b o e
  refine ⟨b,o,e,?_⟩
  rw [World.cell?_setCell_far _ _ _ _ (by simpa using Ne.symm this),World.cell?_setCell_far _ _ _ _ (by simpa using Ne.symm this),World.cell?_setCell_far _ _ _ _ (by simpa using Ne.symm this),World.cell?_setCell_far _ _ _ _ (by simpa using Ne.symm this)]
  exact hc⟩
def Rt (w:World)(A:Int)(B:Nat)(k k':Nat)(e:Ending)(w':World):Prop:=∃ (b1:Bool) (L1:Nat) (D1:List Nat) (r1:Option Addr) (k1:Nat) (L2:Nat) (r2:Option Addr) (k2:Nat),
 e=.returned (.agg #[.bool b1,.slice r1 L1 k1,.bool false,.slice r2 L2 k2])/\Below w.heap.size w w'/\Hid (Sl w' r1 L1 k1 D1)/\Hid (Sl w' r2 L2 k2 (digs B))/\Hid (Nm b1 L1 D1 A)/\L1<=k/\L2<=k'/\Hid (∀ b o,r1=some ⟨b,o,none⟩->w.heap.size<=b)/\Hid (∀ b o,r2=some ⟨b,o,none⟩->w.heap.size<=b)
theorem yoo (s:Bool)(x G:Nat):sg (ng (sg s x)) (x / G)=sg s (x / G):=by
 by_cases h:x=0
 ·subst h
  cases s <;> simp [sg]
 ·cases s
  ·have:ng (sg false x)=false:=by unfold ng sg; simp
   rw [this]
  ·have:ng (sg true x)=true:=by unfold ng sg; simp; omega
   rw [this]
theorem ylo (w:World)(s:Bool)(p q:Option Addr)(n c m d:Nat)(xs ys:List Nat)(h:Sl w p n c xs)(h':Sl w q m d ys)(hy:val ys≠0)(hs:n+1<=35184372088831)(hs':m+1<=35184372088831):
  Calls Tryz.prog 50 #[.agg #[.bool s,.slice p n c],.agg #[.bool false,.slice q m d]] w (Rt w (sg s (val xs / Nat.gcd (val xs) (val ys))) (val ys / Nat.gcd (val xs) (val ys)) n m):=by
 have B1:=yam w (.cells #[.bool s,.slice p n c] 24)
 have B2:=yam (w.alloc (.cells #[.bool s,.slice p n c] 24)) (.cells #[.bool false,.slice q m d] 24)
 have B3:=yam ((w.alloc (.cells #[.bool s,.slice p n c] 24)).alloc (.cells #[.bool false,.slice q m d] 24)) (.cells #[.bool false,.slice none 0 0,.bool false,.slice none 0 0] 26)
 have X1:=((ybw w s p n c).below B2).below B3
 have X2:=(ybw (w.alloc (.cells #[.bool s,.slice p n c] 24)) false q m d).below B3
 have X3:=yc2 ((w.alloc (.cells #[.bool s,.slice p n c] 24)).alloc (.cells #[.bool false,.slice q m d] 24)) false none 0 0 false none 0 0
 rw [show (w.alloc (.cells #[.bool s,.slice p n c] 24)).heap.size=w.heap.size+1 from by simp] at X2
 rw [show ((w.alloc (.cells #[.bool s,.slice p n c] 24)).alloc (.cells #[.bool false,.slice q m d] 24)).heap.size=w.heap.size+1+1 from by simp] at X3
 have HB:=hid (B1.trans ((B2.trans (B3.mono B2.size)).mono B1.size))
 obtain ⟨W,hW⟩:∃ W,((w.alloc (.cells #[.bool s,.slice p n c] 24)).alloc (.cells #[.bool false,.slice q m d] 24)).alloc (.cells #[.bool false,.slice none 0 0,.bool false,.slice none 0 0] 26)=W:=⟨_,rfl⟩
 rw [hW] at X1 X2 X3 HB
 obtain ⟨g,hg⟩:∃ g,w.heap.size=g:=⟨_,rfl⟩
 rw [hg] at X1 X2 X3
 have a0:=X1.at0
 have a1:=X1.at1
 have b0:=X2.at0
 have b1:=X2.at1
 have HX3:=hid X3
 have HH:=hid h
 have HH':=hid h'
 have N1:=yit W s p n c xs (h.below HB.out) (by omega)
 obtain ⟨x,hx⟩:∃ x,val xs=x:=⟨_,rfl⟩
 obtain ⟨y,hyy⟩:∃ y,val ys=y:=⟨_,rfl⟩
 have lx:(digs x).length<=n:=by rw [← hx]; exact h.dl
 have ly:(digs y).length<=m:=by rw [← hyy]; exact h'.dl
 rw [hx,sg_abs] at N1
 rw [hx,hyy]
 rw [hyy] at hy
 obtain ⟨bn,hbn⟩:∃ b,ng (sg s x)=b:=⟨_,rfl⟩
 obtain ⟨Ln,hLn⟩:∃ L,(digs x).length=L:=⟨_,rfl⟩
 obtain ⟨Ld,hLd⟩:∃ L,(digs y).length=L:=⟨_,rfl⟩
 rw [hbn,hLn] at N1
 rw [hLn] at lx
 rw [hLd] at ly
 have HN1:=hid N1
 have N2:Hid (∀ W',Below w.heap.size w W'->Calls Tryz.prog 51 #[.agg #[.bool false,.slice q m d]] W' fun e w'=>∃ r cr,e=.returned (.agg #[.bool false,.slice r Ld cr])/\Below W'.heap.size W' w'/\Sl w' r Ld cr (digs y)):=by
  intro W' hb
  have:=yit W' false q m d ys (h'.below hb) (by omega)
  rw [hyy,sg_abs,hLd,show ng (sg false y)=false from by unfold ng sg; simp] at this
  refine this.mono ?_
  rintro e w' ⟨r,cr,rfl,Z⟩
  have hz:=Z.sl
  rw [sg_abs,hLd] at hz
  exact ⟨r,cr,rfl,Z.below,hz⟩
 have SG:Hid (∀ W' (r:Option Addr) (cr:Nat),Sl W' r Ld cr (digs y)->Calls Tryz.prog 29 #[.agg #[.bool false,.slice r Ld cr]] W' fun e w'=>e=.returned (.int .i64 1)/\Below W'.heap.size W' w'):=by
  intro W' r cr hr
  have:=yiu W' false r Ld cr (digs y) hr (by omega)
  rw [yaf,ye4 hy] at this
  exact this
 obtain ⟨G,hG⟩:∃ G,Nat.gcd x y=G:=⟨_,rfl⟩
 have hG0:G≠0:=by rw [← hG]; exact fun e=>hy (Nat.eq_zero_of_gcd_eq_zero_right e)
 obtain ⟨Lg,hLg⟩:∃ L,(digs G).length=L:=⟨_,rfl⟩
 have lg:Lg<=m:=by rw [← hLg,← hG]; exact zhb (yag (Nat.gcd_le_right x (zhw hy))) (by rw [hLd]; exact ly)
 have GC:Hid (∀ W' (r:Option Addr) (cr:Nat) (r':Option Addr) (cr':Nat),Sl W' r Ln cr (digs x)->Sl W' r' Ld cr' (digs y)->Calls Tryz.prog 81 #[.slice r Ln cr,.slice r' Ld cr'] W' fun e w'=>∃ r cr,e=.returned (.slice r Lg cr)/\Below W'.heap.size W' w'/\Sl w' r Lg cr (digs G)):=by
  intro W' r cr r' cr' h1 h2
  have:=zeb W' r r' Ln cr Ld cr' (digs x) (digs y) h1 h2 (by omega) (by omega)
  rw [yaf,yaf,hG,hLg] at this
  refine this.mono ?_
  rintro e w' ⟨r,cr,rfl,A⟩
  have hz:=A.sl
  rw [hLg] at hz
  exact ⟨r,cr,rfl,A.below,hz⟩
 obtain ⟨Lx,hLx⟩:∃ L,(digs (x / G)).length=L:=⟨_,rfl⟩
 obtain ⟨Ly,hLy⟩:∃ L,(digs (y / G)).length=L:=⟨_,rfl⟩
 have lx2:Lx<=n:=by rw [← hLx]; exact zhb (yag (zia _ _)) (by rw [hLn]; exact lx)
 have ly2:Ly<=m:=by rw [← hLy]; exact zhb (yag (zia _ _)) (by rw [hLd]; exact ly)
 have DX:Hid (∀ W' (r:Option Addr) (cr:Nat) (r':Option Addr) (cr':Nat),Sl W' r Ln cr (digs x)->Sl W' r' Lg cr' (digs G)->Calls Tryz.prog 82 #[.slice r Ln cr,.slice r' Lg cr'] W' fun e w'=>∃ r cr r2 L2 c2,e=.returned (.tuple #[.slice r Lx cr,.slice r2 L2 c2,.int .i64 0])/\Below W'.heap.size W' w'/\Sl w' r Lx cr (digs (x / G))/\∀ b o,r=some ⟨b,o,none⟩->W'.heap.size<=b):=by
  intro W' r cr r' cr' h1 h2
  have:=yue W' r r' Ln cr Lg cr' (digs x) (digs G) h1 h2 (by rw [yaf]; exact hG0) (by omega) (by omega)
  rw [yaf,yaf,hLx] at this
  refine this.mono ?_
  rintro e w' ⟨r,cr,r2,c2,rfl,A,A2⟩
  have hz:=A.sl
  rw [hLx] at hz
  exact ⟨r,cr,r2,_,c2,rfl,A.below,hz,A.fresh⟩
 have DY:Hid (∀ W' (r:Option Addr) (cr:Nat) (r':Option Addr) (cr':Nat),Sl W' r Ld cr (digs y)->Sl W' r' Lg cr' (digs G)->Calls Tryz.prog 82 #[.slice r Ld cr,.slice r' Lg cr'] W' fun e w'=>∃ r cr r2 L2 c2,e=.returned (.tuple #[.slice r Ly cr,.slice r2 L2 c2,.int .i64 0])/\Below W'.heap.size W' w'/\Sl w' r Ly cr (digs (y / G))/\∀ b o,r=some ⟨b,o,none⟩->W'.heap.size<=b):=by
  intro W' r cr r' cr' h1 h2
  have:=yue W' r r' Ld cr Lg cr' (digs y) (digs G) h1 h2 (by rw [yaf]; exact hG0) (by omega) (by omega)
  rw [yaf,yaf,hLy] at this
  refine this.mono ?_
  rintro e w' ⟨r,cr,r2,c2,rfl,A,A2⟩
  have hz:=A.sl
  rw [hLy] at hz
  exact ⟨r,cr,r2,_,c2,rfl,A.below,hz,A.fresh⟩
 have N3:Hid (∀ W' (r:Option Addr) (cr:Nat),Sl W' r Lx cr (digs (x / G))->Calls Tryz.prog 51 #[.agg #[.bool bn,.slice r Lx cr]] W' fun e w'=>∃ b1 L1 D1 r cr,e=.returned (.agg #[.bool b1,.slice r L1 cr])/\Below W'.heap.size W' w'/\Sl w' r L1 cr D1/\Nm b1 L1 D1 (sg s (x / G))/\L1<=n/\∀ b o,r=some ⟨b,o,none⟩->W'.heap.size<=b):=by
  intro W' r cr hr
  have:=yit W' bn r Lx cr (digs (x / G)) hr (by omega)
  rw [yaf,show sg bn (x / G)=sg s (x / G) from by rw [← hbn]; exact yoo s x G] at this
  refine this.mono ?_
  rintro e w' ⟨r,cr,rfl,Z⟩
  refine ⟨_,_,_,r,cr,rfl,Z.below,Z.sl,Nm.mk' _,?_,Z.fresh⟩
  rw [sg_abs,hLx]
  exact lx2
 rw [hG]
 have HNx:Hid ((digs x).length=Ln):=hLn
 clear h h' B1 B2 B3 X1 X2 X3 hx hyy hy N1 hbn hLn hLd hG hLg hG0 hLx
 go_enter Tryz.func50,Tryz.ntmps50
 go_wp2_with fail
 refine HN1.out.mono ?_
 rintro e w1 ⟨rn,kn,rfl,Z1⟩
 have C1:=Z1.below
 replace a0:=yac a0 C1
 replace a1:=yac a1 C1
 replace b0:=yac b0 C1
 replace b1:=yac b1 C1
 replace HX3:=hid (HX3.out.below C1)
 replace HB:=hid (HB.out.trans (C1.mono HB.out.size))
 have Sn:Hid (Sl w1 rn Ln kn (digs x)):=by have:=Z1.sl; rwa [sg_abs,HNx.out] at this
 clear Z1 C1 HN1 hW
 have C2:=yam w1 (.cells #[.bool bn,.slice rn Ln kn] 24)
 have Xn:=ybw w1 bn rn Ln kn
 obtain ⟨W1,hW1⟩:∃ W1,w1.alloc (.cells #[.bool bn,.slice rn Ln kn] 24)=W1:=⟨_,rfl⟩
 rw [hW1] at C2 Xn
 have hs1:W1.heap.size=w1.heap.size+1:=by rw [← hW1]; simp
 obtain ⟨gn,hgn⟩:∃ gn,w1.heap.size=gn:=⟨_,rfl⟩
 clear a0 a1
 replace b0:=yac b0 C2
 replace b1:=yac b1 C2
 replace HX3:=hid (HX3.out.below C2)
 replace HB:=hid (HB.out.trans (C2.mono HB.out.size))
 replace Sn:=hid (Sn.out.below C2)
 rw [hgn] at Xn
 have n0:=Xn.at0
 have n1:=Xn.at1
 clear C2 Xn
 go_wp2_with fail
 refine (N2.out W1 HB.out).mono ?_
 rintro e w2 ⟨rd,kd,rfl,C3,Sd0⟩
 have Sd:=hid Sd0
 clear Sd0 hW1 N2
 replace b0:=yac b0 C3
 replace b1:=yac b1 C3
 replace HX3:=hid (HX3.out.below C3)
 replace HB:=hid (HB.out.trans (C3.mono HB.out.size))
 replace Sn:=hid (Sn.out.below C3)
 replace n0:=yac n0 C3
 replace n1:=yac n1 C3
 clear b0 b1
 have C4:=yam w2 (.cells #[.bool false,.slice rd Ld kd] 24)
 have Xd:=ybw w2 false rd Ld kd
 obtain ⟨W2,hW2⟩:∃ W2,w2.alloc (.cells #[.bool false,.slice rd Ld kd] 24)=W2:=⟨_,rfl⟩
 rw [hW2] at C4 Xd
 obtain ⟨gd,hgd⟩:∃ gd,w2.heap.size=gd:=⟨_,rfl⟩
 replace HX3:=hid (HX3.out.below C4)
 replace HB:=hid (HB.out.trans (C4.mono HB.out.size))
 replace Sn:=hid (Sn.out.below C4)
 replace n0:=yac n0 C4
 replace n1:=yac n1 C4
 replace Sd:=hid (Sd.out.below C4)
 rw [hgd] at Xd
 have e0:=Xd.at0
 have e1:=Xd.at1
 clear C3 C4 Xd
 go_wp2_with fail
 refine (SG.out W2 rd kd Sd.out).mono ?_
 rintro e w3 ⟨rfl,C5⟩
 replace HX3:=hid (HX3.out.below C5)
 replace HB:=hid (HB.out.trans (C5.mono HB.out.size))
 replace Sn:=hid (Sn.out.below C5)
 replace n0:=yac n0 C5
 replace n1:=yac n1 C5
 replace Sd:=hid (Sd.out.below C5)
 replace e0:=yac e0 C5
 replace e1:=yac e1 C5
 clear e0
 clear C5 hW2 SG
 go_wp2_with fail
 refine (GC.out w3 rn kn rd kd Sn.out Sd.out).mono ?_
 rintro e w4 ⟨rg,kg,rfl,C6,Sg0⟩
 replace HX3:=hid (HX3.out.below C6)
 replace HB:=hid (HB.out.trans (C6.mono HB.out.size))
 replace Sn:=hid (Sn.out.below C6)
 replace n0:=yac n0 C6
 replace n1:=yac n1 C6
 replace Sd:=hid (Sd.out.below C6)
 replace e1:=yac e1 C6
 have Sg:=hid Sg0
 clear C6 Sg0 GC
 go_wp2_with fail
 refine (DX.out w4 rn kn rg kg Sn.out Sg.out).mono ?_
 rintro e w5 ⟨rx,kx,r2,L2,c2,rfl,C7,Sx0,Fx0⟩
 replace HX3:=hid (HX3.out.below C7)
 replace HB:=hid (HB.out.trans (C7.mono HB.out.size))
 replace Sn:=hid (Sn.out.below C7)
 replace n0:=yac n0 C7
 replace n1:=yac n1 C7
 replace Sd:=hid (Sd.out.below C7)
 replace e1:=yac e1 C7
 replace Sg:=hid (Sg.out.below C7)
 have Sx:=hid Sx0
 clear C7 Sx0 Fx0 DX
 have HXo:=HX3
 go_wp2_with fail
 refine (DY.out w5 rd kd rg kg Sd.out Sg.out).mono ?_
 rintro e w6 ⟨ry,ky,r3,L3,c3,rfl,C8,Sy0,Fy0⟩
 have hB5:=HB.out.size
 replace HX3:=hid (HX3.out.below C8)
 replace HB:=hid (HB.out.trans (C8.mono HB.out.size))
 replace Sn:=hid (Sn.out.below C8)
 replace n0:=yac n0 C8
 replace n1:=yac n1 C8
 replace Sd:=hid (Sd.out.below C8)
 replace e1:=yac e1 C8
 replace Sg:=hid (Sg.out.below C8)
 replace Sx:=hid (Sx.out.below C8)
 have Sy:=hid Sy0
 have Fy:=hid (fun b o (e:ry=some ⟨b,o,none⟩)=>zhe HXo.out.lt (Fy0 b o e))
 clear C8 Sy0 Fy0 DY
 have HXq:=HX3
 go_wp2_with fail
 refine (N3.out w6 rx kx Sx.out).mono ?_
 rintro e w7 ⟨bz,Lz,Dz,rz,kz,rfl,C9,Sz0,M9,l9,Fz0⟩
 replace HX3:=hid (HX3.out.below C9)
 replace HB:=hid (HB.out.trans (C9.mono HB.out.size))
 replace Sn:=hid (Sn.out.below C9)
 replace n0:=yac n0 C9
 replace n1:=yac n1 C9
 replace Sd:=hid (Sd.out.below C9)
 replace e1:=yac e1 C9
 replace Sg:=hid (Sg.out.below C9)
 replace Sx:=hid (Sx.out.below C9)
 replace Sy:=hid (Sy.out.below C9)
 have Sz:=hid Sz0
 have Fz:=hid (fun b o (e:rz=some ⟨b,o,none⟩)=>zhe HXq.out.lt (Fz0 b o e))
 have M:=hid M9
 have x3:=HX3.out
 have k0:=x3.at0
 have k1:=x3.at1
 have k2:=x3.at2
 have k3:=x3.at3
 have k4:=x3.frozen 0
 have k5:=x3.frozen 1
 have k6:=x3.frozen 2
 have k7:=x3.frozen 3
 clear C9 Sz0 M9 Fz0 N3 HXq
 go_wp2
 have hc:=x3.set bz rz Lz kz false ry Ly ky
 have hc0:=hc.at0
 have hc1:=hc.at1
 have hc2:=hc.at2
 have hc3:=hc.at3
 refine bodyPost_ret (by simp [results,Tryz.results50,go_sem,hc0,hc1,hc2,hc3]; try rfl) rfl ?_
 exact ⟨bz,Lz,Dz,rz,kz,Ly,ry,ky,rfl,yen HB.out (by omega),ye8 Sz.out (fun b o e=>by have:=Fz.out b o e; omega),ye8 Sy.out (fun b o e=>by have:=Fy.out b o e; omega),M.out,l9,ly2,fun b o e=>by have:=Fz.out b o e; omega,fun b o e=>by have:=Fy.out b o e; omega⟩
end Go.Proofs.YtdnindaohpdblaaGreat
