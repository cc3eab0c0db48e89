import Derived.Test.YtdnindaohpdblaaGreatRsC
import Derived.Test.YtdnindaohpdblaaGreatRsB
set_option linter.all false
namespace Go.Proofs.YtdnindaohpdblaaGreat
open Go.RowKit Nt
set_option maxRecDepth 20000
set_option maxHeartbeats 16000000

def Fl1 (w:World)(A:Int)(k:Nat)(e:Ending)(w':World):Prop:=∃ (b:Bool) (L:Nat) (D:List Nat) (r:Option Addr) (cr:Nat),
 e=.returned (.tuple #[.agg #[.bool b,.slice r L cr],.int .i64 0])/\Below w.heap.size w w'/\Hid (Sl w' r L cr D)/\Hid (Nm b L D A)/\L<=k/\∀ b o,r=some ⟨b,o,none⟩->w.heap.size<=b
theorem yqk (w:World)(s t:Bool)(p q:Option Addr)(n c m d:Nat)(xs ys:List Nat)(h:Sl w p n c xs)(h':Sl w q m d ys)(hy:val ys≠0)(h0:val xs % val ys=0)(hs:n+1<=70368744177663):
  Calls Tryz.prog 98 #[.agg #[.bool s,.slice p n c],.agg #[.bool t,.slice q m d]] w (Fl1 w (sg (s != t) (val xs / val ys)) n):=by
 obtain ⟨W,g,hg,hW,d1,d2,d3,d4,_,_,HI⟩:=enter2 w s p n c t q m d
 have DV:=yn8 W p q n c m d xs ys (h.below HI.out.below) (h'.below HI.out.below) hy (by omega)
 rw [h0] at DV
 rw [show (digs 0).length=0 from rfl] at DV
 have hlq:(digs (val xs / val ys)).length<=n:=zhb (yag (zia _ _)) h.dl
 obtain ⟨q0,hq0⟩:∃ q0,val xs / val ys=q0:=⟨_,rfl⟩
 rw [hq0] at DV hlq ⊢
 obtain ⟨L,hL⟩:∃ L,(digs q0).length=L:=⟨_,rfl⟩
 rw [hL] at DV hlq
 have HDV:=hid DV
 have HLL:=hid hL
 have hgl:=HI.out.lt
 have FIN:Hid (∀ (bv:Bool) (r:Option Addr) (cr:Nat) (w':World),bv=(s != t && decide (0 < L))->Below w.heap.size w w'->Sl w' r L cr (digs q0)->(∀ b o,r=some ⟨b,o,none⟩->w.heap.size<=b)->Fl1 w (sg (s != t) q0) n (.returned (.tuple #[.agg #[.bool bv,.slice r L cr],.int .i64 0])) w'):=by
  intro bv r cr w' hb hB hS hF
  refine ⟨bv,L,digs q0,r,cr,rfl,hB,hS,⟨?_,by rw [sg_abs],hL⟩,hlq,hF⟩
  rw [hb,← hL]
  exact yon _ _
 clear h h' hy h0 hq0 hL DV hlq
 cases s <;> cases t
 all_goals
  go_enter Tryz.func98,Tryz.ntmps98
  go_wp2_with fail
  refine HDV.out.mono ?_
  rintro e w1 ⟨rq,cq,rr,cr,rfl,R1,R2,T12⟩
  have HQ:Hid (Sl w1 rq L cq (digs q0)):=by have:=R1.sl; rwa [HLL.out] at this
  have FQ:=hid (fun b o (e:rq=some ⟨b,o,none⟩)=>(R1.own b o e).2.1)
  replace HI:=hid (HI.out.call R1.below)
  replace d1:=yac d1 R1.below
  replace d3:=yac d3 R1.below
  clear R1 R2 T12 HDV d2 d4
  go_wp2_with (go_at_call 85; refine (ycx _ _ rq L cq (zhb HQ.out.cap HQ.out.max)).mono ?_; rintro e w2 ⟨rfl,hBz⟩; have hI2:=hid (HI.out.call hBz); have HQ2:=hid (HQ.out.below hBz); obtain ⟨b3,r3,n3,c3,hx3⟩:=hI2.out.box; have k0:=hx3.at0; have k1:=hx3.at1; have k2:=hx3.frozen 0; have k3:=hx3.frozen 1)
  have hc0:=fun b=>(hx3.set b rq L cq).at0
  have hc1:=fun b=>(hx3.set b rq L cq).at1
  refine bodyPost_ret (by simp [results,Tryz.results98,go_sem,hc0,hc1]; try rfl) rfl ?_
  exact FIN.out _ rq cq _ (by simp) (hI2.out.set _ _ _ _).below (yc4 HQ2.out (fun b o e=>by have:=FQ.out b o e; omega)) (fun b o e=>by have:=FQ.out b o e; have:=hI2.out.fresh; omega)
theorem zbc {w:World}{g2 n c:Nat}{r:Option Addr}{ds:List Nat}{v0 v1:Value}(h:Sl w r n c ds)(ha:Apart r ds g2):
  Sl ((w.setCell ⟨g2,0,none⟩ v0).setCell ⟨g2,1,none⟩ v1) r n c ds:=
 ⟨h.len,h.cap,h.max,h.nil,h.ok,fun i hi=>by
  obtain ⟨b,o,e,hc⟩:=h.lie i hi
  have:=ha b o e (fun e=>by rw [e] at hi; simp at hi)
  refine ⟨b,o,e,?_⟩
  rw [World.cell?_setCell_far _ _ _ _ (by simpa using Ne.symm this),World.cell?_setCell_far _ _ _ _ (by simpa using Ne.symm this)]
  exact hc⟩
theorem rboxFar0 {w:World}{b b' n c m d:Nat}{s t:Bool}{p q:Option Addr}{v0 v1:Value}(h:RBox w b s p n c t q m d)(hb:b≠b'):RBox ((w.setCell ⟨b',0,none⟩ v0).setCell ⟨b',1,none⟩ v1) b s p n c t q m d:=by
 show _=_
 rw [Below.heap_setCell _ _ _ _ (by simpa using hb),Below.heap_setCell _ _ _ _ (by simpa using hb)]
 exact h
theorem yrm (w:World)(b:Nat)(v0 v1:Value):((w.setCell ⟨b,0,none⟩ v0).setCell ⟨b,1,none⟩ v1).heap.size=w.heap.size:=by simp
theorem yza (w:World)(s t:Bool)(p q:Option Addr)(n c m d:Nat)(xs ys:List Nat)(h:Sl w p n c xs)(h':Sl w q m d ys)(hs:n+1<=70368744177664)(hs':m+1<=70368744177664):
  Calls Tryz.prog 97 #[.agg #[.bool s,.slice p n c],.agg #[.bool t,.slice q m d]] w fun e w'=>∃ r cr,e=.returned (.agg #[.bool false,.slice r (digs (Nat.gcd (val xs) (val ys))).length cr])/\Below w.heap.size w w'/\Sl w' r (digs (Nat.gcd (val xs) (val ys))).length cr (digs (Nat.gcd (val xs) (val ys)))/\∀ b o,r=some ⟨b,o,none⟩->w.heap.size<=b:=by
 obtain ⟨W,g,hg,hW,a0,a1,b0,b1,_,_,HI⟩:=enter2 w s p n c t q m d
 have GC:=zf0 W p q n c m d xs ys (h.below HI.out.below) (h'.below HI.out.below) hs hs'
 obtain ⟨G,hG⟩:∃ G,Nat.gcd (val xs) (val ys)=G:=⟨_,rfl⟩
 obtain ⟨L,hL⟩:∃ L,(digs G).length=L:=⟨_,rfl⟩
 rw [hG,hL] at GC
 rw [hG,hL]
 have HGC:=hid GC
 have HL:=hid hL
 have hgl:=HI.out.lt
 clear h h' GC hG hL
 go_enter Tryz.func97,Tryz.ntmps97
 go_wp2_with fail
 refine HGC.out.mono ?_
 rintro e w1 ⟨r,cr,rfl,R1⟩
 have HI1:=hid (HI.out.call R1.below)
 have HS:Hid (Sl w1 r L cr (digs G)):=by have:=R1.sl; rwa [HL.out] at this
 have HF:=hid (fun b o (e:r=some ⟨b,o,none⟩)=>(R1.own b o e).2.1)
 clear R1 HGC a0 a1 b0 b1
 go_wp2_with (go_at_call 85; refine (ycx _ false r L cr (zhb HS.out.cap HS.out.max)).mono ?_; rintro e w2 ⟨rfl,hBz⟩; have hI2:=hid (HI1.out.call hBz); have HS2:=hid (HS.out.below hBz); obtain ⟨b3,r3,n3,c3,hx3⟩:=hI2.out.box; have k0:=hx3.at0; have k1:=hx3.at1; have k2:=hx3.frozen 0; have k3:=hx3.frozen 1)
 have hc0:=fun b=>(hx3.set b r L cr).at0
 have hc1:=fun b=>(hx3.set b r L cr).at1
 refine bodyPost_ret (by simp [results,Tryz.results97,go_sem,hc0,hc1]; try rfl) rfl ?_
 exact ⟨r,cr,by simp,(hI2.out.set _ _ _ _).below,yc4 HS2.out (fun b o e=>by have:=HF.out b o e; omega),fun b o e=>by have:=HF.out b o e; omega⟩
theorem ywl (w:World)(s:Bool)(p q:Option Addr)(n c m d:Nat)(xs ys:List Nat)(h:Sl w p n c xs)(h':Sl w q m d ys)(hy:val ys≠0)(hs:n+1<=70368744177663)(hs':m+1<=70368744177663):
  Calls Tryz.prog 74 #[.agg #[.bool s,.slice p n c],.agg #[.bool false,.slice q m d]] w (Rt w (sg s (val xs / Nat.gcd (val xs) (val ys))) (val ys / Nat.gcd (val xs) (val ys)) n m):=by
 have B1:=yam w (.cells #[.bool s,.slice p n c] 24)
 have B2:=yam (w.alloc (.cells #[.bool s,.slice p n c] 24)) (.cells #[.bool false,.slice q m d] 24)
 have B3:=yam ((w.alloc (.cells #[.bool s,.slice p n c] 24)).alloc (.cells #[.bool false,.slice q m d] 24)) (.cells #[.bool false,.slice none 0 0,.bool false,.slice none 0 0] 26)
 have X1:=((ybw w s p n c).below B2).below B3
 have X2:=(ybw (w.alloc (.cells #[.bool s,.slice p n c] 24)) false q m d).below B3
 have X3:=yc2 ((w.alloc (.cells #[.bool s,.slice p n c] 24)).alloc (.cells #[.bool false,.slice q m d] 24)) false none 0 0 false none 0 0
 rw [show (w.alloc (.cells #[.bool s,.slice p n c] 24)).heap.size=w.heap.size+1 from by simp] at X2
 rw [show ((w.alloc (.cells #[.bool s,.slice p n c] 24)).alloc (.cells #[.bool false,.slice q m d] 24)).heap.size=w.heap.size+1+1 from by simp] at X3
 have HB:=hid (B1.trans ((B2.trans (B3.mono B2.size)).mono B1.size))
 obtain ⟨W,hW⟩:∃ W,((w.alloc (.cells #[.bool s,.slice p n c] 24)).alloc (.cells #[.bool false,.slice q m d] 24)).alloc (.cells #[.bool false,.slice none 0 0,.bool false,.slice none 0 0] 26)=W:=⟨_,rfl⟩
 rw [hW] at X1 X2 X3 HB
 obtain ⟨g,hg⟩:∃ g,w.heap.size=g:=⟨_,rfl⟩
 rw [hg] at X1 X2 X3
 have a0:=X1.at0
 have a1:=X1.at1
 have b0:=X2.at0
 have b1:=X2.at1
 have HX1:=hid X1
 have HX2:=hid X2
 have HX3:=hid X3
 have Sp:=hid (h.below HB.out)
 have Sq:=hid (h'.below HB.out)
 obtain ⟨X,hX⟩:∃ X,val xs=X:=⟨_,rfl⟩
 obtain ⟨Y,hY⟩:∃ Y,val ys=Y:=⟨_,rfl⟩
 obtain ⟨G,hG⟩:∃ G,Nat.gcd X Y=G:=⟨_,rfl⟩
 obtain ⟨Lg,hLg⟩:∃ L,(digs G).length=L:=⟨_,rfl⟩
 have GC:=yza W s false p q n c m d xs ys Sp.out Sq.out (by omega) (by omega)
 rw [hX,hY,hG,hLg] at GC
 replace GC:=hid GC
 have hG0:G≠0:=by rw [← hG]; exact fun e=>hy (by rw [hY]; exact Nat.eq_zero_of_gcd_eq_zero_right e)
 have EX1:Hid (∀ (W:World) (r:Option Addr) (cr:Nat),Sl W p n c xs->Sl W r Lg cr (digs G)->Calls Tryz.prog 98 #[.agg #[.bool s,.slice p n c],.agg #[.bool false,.slice r Lg cr]] W fun e w'=>∃ (sb:Bool) (L1:Nat) (D1:List Nat) (r1:Option Addr) (k1:Nat),e=.returned (.tuple #[.agg #[.bool sb,.slice r1 L1 k1],.int .i64 0])/\Below W.heap.size W w'/\Sl w' r1 L1 k1 D1/\Nm sb L1 D1 (sg s (X / G))/\L1<=n/\∀ b o,r1=some ⟨b,o,none⟩->W.heap.size<=b):=by
  intro W r cr h1 h2
  have:=yqk W s false p r n c Lg cr xs (digs G) h1 h2 (by rw [yaf]; exact hG0) (by rw [yaf,hX,← hG]; exact Nat.mod_eq_zero_of_dvd (zj2 X Y)) (by omega)
  rw [yaf,hX,show (s != false)=s from by cases s <;> rfl] at this
  refine this.mono ?_
  rintro e w' ⟨b,L,D,r,cr,rfl,a1,a2,a3,a4,a5⟩
  exact ⟨b,L,D,r,cr,rfl,a1,a2.out,a3.out,a4,a5⟩
 have EX2:Hid (∀ (W:World) (r:Option Addr) (cr:Nat),Sl W q m d ys->Sl W r Lg cr (digs G)->Calls Tryz.prog 98 #[.agg #[.bool false,.slice q m d],.agg #[.bool false,.slice r Lg cr]] W fun e w'=>∃ (L2:Nat) (r2:Option Addr) (k2:Nat),e=.returned (.tuple #[.agg #[.bool false,.slice r2 L2 k2],.int .i64 0])/\Below W.heap.size W w'/\Sl w' r2 L2 k2 (digs (Y / G))/\L2<=m/\∀ b o,r2=some ⟨b,o,none⟩->W.heap.size<=b):=by
  intro W r cr h1 h2
  have:=yqk W false false q r m d Lg cr ys (digs G) h1 h2 (by rw [yaf]; exact hG0) (by rw [yaf,hY,← hG]; exact Nat.mod_eq_zero_of_dvd (zjm X Y)) (by omega)
  rw [yaf,hY] at this
  refine this.mono ?_
  rintro e w' ⟨b,L,D,r,cr,rfl,a1,a2,a3,a4,a5⟩
  have e1:=a3.out.sgn
  have e2:=a3.out.dgs
  have e3:sg (false != false) (Y / G)=((Y / G:Nat):Int):=by unfold sg; simp
  rw [e3] at e1 e2
  have e4:b=false:=by rw [e1]; unfold ng; exact decide_eq_false (Int.not_lt.2 (Int.natCast_nonneg _))
  rw [zhy] at e2
  subst e4
  subst e2
  exact ⟨L,r,cr,rfl,a1,a2.out,a4,a5⟩
 rw [hX,hY,hG]
 have hWl:=X3.lt
 have hgq:=hid (h'.apart (g:=g) (by omega))
 clear h h' B1 B2 B3 X1 X2 X3 hX hY hG hLg hG0 hy
 go_enter Tryz.func74,Tryz.ntmps74
 go_wp2_with fail
 refine GC.out.mono ?_
 rintro e w1 ⟨rg,kg,rfl,C1,Sg0,Fg0⟩
 have Fg:=hid Fg0
 clear Fg0
 have C2:=yam w1 (.cells #[.bool false,.slice rg Lg kg] 24)
 have Xg:=ybw w1 false rg Lg kg
 obtain ⟨W1,hW1⟩:∃ W1,w1.alloc (.cells #[.bool false,.slice rg Lg kg] 24)=W1:=⟨_,rfl⟩
 rw [hW1] at C2 Xg
 obtain ⟨gg,hgg⟩:∃ gg,w1.heap.size=gg:=⟨_,rfl⟩
 rw [hgg] at Xg
 have C12:=C1.trans (C2.mono C1.size)
 have hl1:W.heap.size<=gg:=by rw [← hgg]; exact C1.size
 have HXa:=hid (HX1.out.below C12)
 have HXb:=hid (HX2.out.below C12)
 have HXr:=hid (HX3.out.below C12)
 have Sp1:=hid (Sp.out.below C12)
 have Sq1:=hid (Sq.out.below C12)
 have Sg:=hid (Sg0.below C2)
 have HXg:=hid Xg
 have HB1:=hid (HB.out.trans (C12.mono HB.out.size))
 have hg1:gg < W1.heap.size:=Xg.lt
 clear C1 C2 C12 Sg0 Xg hW HX1 HX2 HX3 Sp Sq GC a0 a1 b0 b1
 have a0:=HXa.out.at0
 have a1:=HXa.out.at1
 have b0:=HXb.out.at0
 have b1:=HXb.out.at1
 have g0:=HXg.out.at0
 have g1:=HXg.out.at1
 go_wp2_with fail
 refine (EX1.out W1 rg kg Sp1.out Sg.out).mono ?_
 rintro e w2 ⟨sb,L1,D1,r1,k1,rfl,C3,S1,N1,y1,F1⟩
 have HN1:=hid N1
 clear N1
 have xa:=HXa.out.below C3
 have xb:=HXb.out.below C3
 have xr:=HXr.out.below C3
 have xg:=HXg.out.below C3
 have HS1:=hid S1
 have HF1:=hid (fun b o (e:r1=some ⟨b,o,none⟩)=>zhe hg1 (F1 b o e))
 have Sq2:=hid (Sq1.out.below C3)
 have Sg2:=hid (Sg.out.below C3)
 have HB2:=hid (HB1.out.trans (C3.mono HB1.out.size))
 have hs2:=C3.size
 have k2:=xa.at0
 have k3:=xa.at1
 have k4:=xa.frozen 0
 have k5:=xa.frozen 1
 clear C3 S1 F1 a0 a1 b0 b1 g0 g1 hW1
 have v1:g+1≠g:=by omega
 have v2:g+1+1≠g:=by omega
 have v3:gg≠g:=by omega
 have xb':=boxFar (v0:=.bool sb) (v1:=.slice r1 L1 k1) xb v1
 have xg':=boxFar (v0:=.bool sb) (v1:=.slice r1 L1 k1) xg v3
 have xa':=xa.set sb r1 L1 k1
 have b0:=xb'.at0
 have b1:=xb'.at1
 have g0:=xg'.at0
 have g1:=xg'.at1
 have E2:=hid (EX2.out _ rg kg (zbc (g2:=g) (v0:=.bool sb) (v1:=.slice r1 L1 k1) Sq2.out hgq.out) (yc4 (g2:=g) (v0:=.bool sb) (v1:=.slice r1 L1 k1) Sg2.out (fun b o e=>by have:=Fg.out b o e; omega)))
 have xr':=rboxFar0 (v0:=.bool sb) (v1:=.slice r1 L1 k1) xr v2
 have HS1':=hid (yc4 (g2:=g) (v0:=.bool sb) (v1:=.slice r1 L1 k1) HS1.out (fun b o e=>by have:=HF1.out b o e; omega))
 have vg:w.heap.size<=g:=by omega
 have HB3:=hid ((HB2.out.setCell (p:=⟨g,0,none⟩) vg (.bool sb)).setCell (p:=⟨g,1,none⟩) vg (.slice r1 L1 k1))
 have hsz:=yrm w2 g (.bool sb) (.slice r1 L1 k1)
 have HXa2:=hid xa'
 have HXb2:=hid xb'
 have HXr2:=hid xr'
 clear xa xb xr xg xg' xa' xb' xr' HXa HXb HXr HXg Sp1 Sq1 Sg Sq2 Sg2 HS1 HB1 HB2
 go_wp2_with fail
 refine E2.out.mono ?_
 rintro e w3 ⟨L2,r2,k2',rfl,C4,S2,y2,F2⟩
 have ya:=HXa2.out.below C4
 have yb:=HXb2.out.below C4
 have yr:=HXr2.out.below C4
 have HS2:=hid S2
 have HS3:=hid (HS1'.out.below C4)
 have HF2:=hid (fun b o (e:r2=some ⟨b,o,none⟩)=>F2 b o e)
 have HB4:=hid (HB3.out.trans (C4.mono HB3.out.size))
 have v4:g≠g+1:=by omega
 have v5:g+1+1≠g+1:=by omega
 have j0:=yb.at0
 have j1:=yb.at1
 have j2:=yb.frozen 0
 have j3:=yb.frozen 1
 have ya':=boxFar (v0:=.bool false) (v1:=.slice r2 L2 k2') ya v4
 have yb':=yb.set false r2 L2 k2'
 have yr':=rboxFar0 (v0:=.bool false) (v1:=.slice r2 L2 k2') yr v5
 have i0:=ya'.at0
 have i1:=ya'.at1
 have i2:=yb'.at0
 have i3:=yb'.at1
 have i4:=yr'.at0
 have i5:=yr'.at1
 have i6:=yr'.at2
 have i7:=yr'.at3
 have i8:=yr'.frozen 0
 have i9:=yr'.frozen 1
 have i10:=yr'.frozen 2
 have i11:=yr'.frozen 3
 clear C4 S2 F2 E2 EX1 EX2
 go_wp2
 have hc:=yr'.set sb r1 L1 k1 false r2 L2 k2'
 have hc0:=hc.at0
 have hc1:=hc.at1
 have hc2:=hc.at2
 have hc3:=hc.at3
 refine bodyPost_ret (by simp [results,Tryz.results74,go_sem,hc0,hc1,hc2,hc3]; try rfl) rfl ?_
 have va:w.heap.size<=g+1:=by omega
 have vb:w.heap.size<=g+1+1:=by omega
 refine ⟨sb,L1,D1,r1,k1,L2,r2,k2',rfl,yen ((HB4.out.setCell va _).setCell va _) vb,ye8 (yc4 HS3.out (fun b o e=>by have:=HF1.out b o e; omega)) (fun b o e=>by have:=HF1.out b o e; omega),ye8 (yc4 HS2.out (fun b o e=>by have:=HF2.out b o e; omega)) (fun b o e=>by have:=HF2.out b o e; omega),HN1.out,y1,y2,fun b o e=>by have:=HF1.out b o e; omega,fun b o e=>by have:=HF2.out b o e; omega⟩
def RtE (w:World)(A:Int)(B:Nat)(k k':Nat)(e:Ending)(w':World):Prop:=∃ (b1:Bool) (L1:Nat) (D1:List Nat) (r1:Option Addr) (k1:Nat) (L2:Nat) (r2:Option Addr) (k2:Nat),
 e=.returned (.tuple #[.agg #[.bool b1,.slice r1 L1 k1,.bool false,.slice r2 L2 k2],.int .i64 0])/\Below w.heap.size w w'/\Sl w' r1 L1 k1 D1/\Sl w' r2 L2 k2 (digs B)/\Nm b1 L1 D1 A/\L1<=k/\L2<=k'/\Hid (∀ b o,r1=some ⟨b,o,none⟩->w.heap.size<=b)/\Hid (∀ b o,r2=some ⟨b,o,none⟩->w.heap.size<=b)
theorem enterM (w:World)(s:Bool)(p:Option Addr)(n c:Nat)(t:Bool)(q:Option Addr)(m d:Nat):
  ∃ W g,w.heap.size=g/\((w.alloc (.cells #[.bool s,.slice p n c] 24)).alloc (.cells #[.bool t,.slice q m d] 24)).alloc (.cells #[.bool false,.slice none 0 0,.bool false,.slice none 0 0] 26)=W/\Hid (Box W g s p n c)/\Hid (Box W (g+1) t q m d)/\Hid (RBox W (g+1+1) false none 0 0 false none 0 0)/\Hid (Below w.heap.size w W):=by
 have B1:=yam w (.cells #[.bool s,.slice p n c] 24)
 have B2:=yam (w.alloc (.cells #[.bool s,.slice p n c] 24)) (.cells #[.bool t,.slice q m d] 24)
 have B3:=yam ((w.alloc (.cells #[.bool s,.slice p n c] 24)).alloc (.cells #[.bool t,.slice q m d] 24)) (.cells #[.bool false,.slice none 0 0,.bool false,.slice none 0 0] 26)
 have X1:=((ybw w s p n c).below B2).below B3
 have X2:=(ybw (w.alloc (.cells #[.bool s,.slice p n c] 24)) t q m d).below B3
 have X3:=yc2 ((w.alloc (.cells #[.bool s,.slice p n c] 24)).alloc (.cells #[.bool t,.slice q m d] 24)) false none 0 0 false none 0 0
 rw [show (w.alloc (.cells #[.bool s,.slice p n c] 24)).heap.size=w.heap.size+1 from by simp] at X2
 rw [show ((w.alloc (.cells #[.bool s,.slice p n c] 24)).alloc (.cells #[.bool t,.slice q m d] 24)).heap.size=w.heap.size+1+1 from by simp] at X3
 exact ⟨_,_,rfl,rfl,X1,X2,X3,B1.trans ((B2.trans (B3.mono B2.size)).mono B1.size)⟩
theorem yoi (w:World)(s:Bool)(p q:Option Addr)(n c m d:Nat)(xs ys:List Nat)(h:Sl w p n c xs)(h':Sl w q m d ys)(hy:val ys≠0)(hs:n+1<=70368744177663)(hs':m+1<=70368744177663):
  Calls Tryz.prog 38 #[.agg #[.bool s,.slice p n c],.agg #[.bool false,.slice q m d]] w (RtE w (sg s (val xs / Nat.gcd (val xs) (val ys))) (val ys / Nat.gcd (val xs) (val ys)) n m):=by
 obtain ⟨W,g,hg,hW,X1,X2,X3,HB⟩:=enterM w s p n c false q m d
 have SG:=ygj W false q m d ys (h'.below HB.out) (by omega)
 rw [ye4 hy] at SG
 have HSG:=hid SG
 have LW:=hid (fun (W':World) (hb:Below w.heap.size w W')=>ywl W' s p q n c m d xs ys (h.below hb) (h'.below hb) hy hs hs')
 obtain ⟨A,hA⟩:∃ A,sg s (val xs / Nat.gcd (val xs) (val ys))=A:=⟨_,rfl⟩
 obtain ⟨B,hB⟩:∃ B,val ys / Nat.gcd (val xs) (val ys)=B:=⟨_,rfl⟩
 rw [hA,hB] at LW ⊢
 have b0:=X2.out.at0
 have b1:=X2.out.at1
 clear SG h h' hy hA hB
 go_enter Tryz.func38,Tryz.ntmps38
 go_wp2_with fail
 refine HSG.out.mono ?_
 rintro e w1 ⟨rfl,C1⟩
 have HX3:=hid (X3.out.below C1)
 have HB1:=hid (HB.out.trans (C1.mono HB.out.size))
 have x1:=X1.out.below C1
 have x2:=X2.out.below C1
 clear b0 b1
 have a0:=x1.at0
 have a1:=x1.at1
 have b0:=x2.at0
 have b1:=x2.at1
 have hl3:=HX3.out.lt
 clear C1 HSG X1 X2 X3 hW x1 x2
 go_wp2_with fail
 refine (LW.out w1 HB1.out).mono ?_
 rintro e w2 ⟨bz,L1,D1,r1,k1',L2,r2,k2',rfl,C2,S1,S2,N1,l1,l2,F1,F2⟩
 have x3:=HX3.out.below C2
 have HB2:=hid (HB1.out.trans (C2.mono HB1.out.size))
 have k0:=x3.at0
 have k1:=x3.at1
 have k2:=x3.at2
 have k3:=x3.at3
 have k4:=x3.frozen 0
 have k5:=x3.frozen 1
 have k6:=x3.frozen 2
 have k7:=x3.frozen 3
 clear a0 a1 b0 b1 C2 LW HX3
 go_wp2
 have hc:=x3.set bz r1 L1 k1' false r2 L2 k2'
 have hc0:=hc.at0
 have hc1:=hc.at1
 have hc2:=hc.at2
 have hc3:=hc.at3
 refine bodyPost_ret (by simp [results,Tryz.results38,go_sem,hc0,hc1,hc2,hc3]; try rfl) rfl ?_
 exact ⟨bz,L1,D1,r1,k1',L2,r2,k2',rfl,yen HB2.out (by omega),ye8 S1.out (fun b o e=>by have:=F1.out b o e; omega),ye8 S2.out (fun b o e=>by have:=F2.out b o e; omega),N1.out,l1,l2,fun b o e=>by have:=F1.out b o e; omega,fun b o e=>by have:=F2.out b o e; omega⟩
end Go.Proofs.YtdnindaohpdblaaGreat
