import Derived.Test.YtdnindaohpdblaaGreatSetZ
import Derived.Test.YtdnindaohpdblaaGreatSetC
import Derived.Test.YtdnindaohpdblaaGreatSetK
set_option linter.all false
namespace Go.Proofs.YtdnindaohpdblaaGreat
open Go.RowKit Nt
set_option maxRecDepth 20000
set_option maxHeartbeats 16000000
theorem yi8 (w:World)(s:Bool)(p:Option Addr)(n c:Nat)(xs:List Nat)(h:Sl w p n c xs)(hs:n<=35184372088832):
  Calls Tryz.prog 65 #[.bool s,.slice p n c] w fun e w'=>∃ r cr,e=.returned (.agg #[.bool (ng (sg s (val xs))),.slice r (digs (sg s (val xs)).natAbs).length cr])/\Za w w' r cr (sg s (val xs)):=by
 obtain ⟨W,g,hg,hW,c00,c01,HI⟩:=enter0 w
 have N:=yd1 W p n c xs (h.below HI.out.below) hs
 obtain ⟨L,hL⟩:∃ L,(digs (val xs)).length=L:=⟨_,rfl⟩
 rw [hL] at N
 have HN:=hid N
 have HLL:=hid hL
 have hpos:Hid (s && decide (0 < L))=(s && decide (0 < L)):=rfl
 rw [sg_abs,hL,← yqc s hL]
 have hLb:L<=35184372088832:=by rw [← hL]; exact zhb h.dl hs
 clear h N hL hpos c00 c01
 have tail:∀ (bv:Bool),(s && decide (0 < L))=bv->Calls Tryz.prog 65 #[.bool s,.slice p n c] w fun e w'=>∃ r cr,e=.returned (.agg #[.bool bv,.slice r L cr])/\Za w w' r cr (sg s (val xs)):=by
  intro bv hbv
  cases s with
  | false =>
   obtain rfl:bv=false:=by simpa using hbv.symm
   go_enter Tryz.func65,Tryz.ntmps65
   go_wp2_with fail
   refine HN.out.mono ?_
   rintro e w1 ⟨r,cr,rfl,A⟩
   have hI2:=hid (HI.out.call A.below)
   obtain ⟨b3,r3,n3,c3,hx3⟩:=hI2.out.box
   have k0:=hx3.at0
   have k1:=hx3.at1
   have k2:=hx3.frozen 0
   have k3:=hx3.frozen 1
   go_wp2
   have hc0:=(hx3.set false r L cr).at0
   have hc1:=(hx3.set false r L cr).at1
   refine bodyPost_ret (by simp [results,Tryz.results65,go_sem,hc0,hc1]; try rfl) rfl ?_
   refine ⟨r,cr,rfl,hI2.out.fin (w1:=w) (by rw [sg_abs]; exact A.sl) (fun b o e=>zhe HI.out.lt (A.fresh b o e)) _ _⟩
  | true =>
   by_cases h0:0 < L
   ·obtain rfl:bv=true:=by simpa [h0] using hbv.symm
    go_enter Tryz.func65,Tryz.ntmps65
    go_wp2_with fail
    refine HN.out.mono ?_
    rintro e w1 ⟨r,cr,rfl,A⟩
    have hI2:=hid (HI.out.call A.below)
    obtain ⟨b3,r3,n3,c3,hx3⟩:=hI2.out.box
    have k0:=hx3.at0
    have k1:=hx3.at1
    have k2:=hx3.frozen 0
    have k3:=hx3.frozen 1
    go_wp2
    have hc0:=(hx3.set true r L cr).at0
    have hc1:=(hx3.set true r L cr).at1
    refine bodyPost_ret (by simp [results,Tryz.results65,go_sem,hc0,hc1]; try rfl) rfl ?_
    refine ⟨r,cr,rfl,hI2.out.fin (w1:=w) (by rw [sg_abs]; exact A.sl) (fun b o e=>zhe HI.out.lt (A.fresh b o e)) _ _⟩
   ·obtain rfl:bv=false:=by simpa [h0] using hbv.symm
    obtain rfl:L=0:=by omega
    go_enter Tryz.func65,Tryz.ntmps65
    go_wp2_with fail
    refine HN.out.mono ?_
    rintro e w1 ⟨r,cr,rfl,A⟩
    have hI2:=hid (HI.out.call A.below)
    obtain ⟨b3,r3,n3,c3,hx3⟩:=hI2.out.box
    have k0:=hx3.at0
    have k1:=hx3.at1
    have k2:=hx3.frozen 0
    have k3:=hx3.frozen 1
    go_wp2
    have hc0:=(hx3.set false r 0 cr).at0
    have hc1:=(hx3.set false r 0 cr).at1
    refine bodyPost_ret (by simp [results,Tryz.results65,go_sem,hc0,hc1]; try rfl) rfl ?_
    refine ⟨r,cr,rfl,hI2.out.fin (w1:=w) (by rw [sg_abs]; exact A.sl) (fun b o e=>zhe HI.out.lt (A.fresh b o e)) _ _⟩
 exact tail _ rfl
theorem yvp (w:World)(s:Bool)(p:Option Addr)(n c:Nat)(xs:List Nat)(h:Sl w p n c xs)(hs:n<=35184372088832):
  Calls Tryz.prog 80 #[.agg #[.bool s,.slice p n c]] w fun e w'=>∃ r cr,e=.returned (.agg #[.bool (ng (- sg s (val xs))),.slice r (digs (- sg s (val xs)).natAbs).length cr])/\Za w w' r cr (- sg s (val xs)):=by
 obtain ⟨W,g,hg,hW,c10,c11,c20,c21,HI⟩:=enter1 w s p n c
 have N:=yi8 W (!s) p n c xs (h.below HI.out.below) hs
 obtain ⟨z,hz⟩:∃ z,- sg s (val xs)=z:=⟨_,rfl⟩
 rw [ynn] at N
 rw [hz] at N ⊢
 obtain ⟨L,hL⟩:∃ L,(digs z.natAbs).length=L:=⟨_,rfl⟩
 obtain ⟨bz,hbz⟩:∃ bz,ng z=bz:=⟨_,rfl⟩
 rw [hL,hbz] at N ⊢
 have HN:=hid N
 clear h N hz c20 c21
 go_enter Tryz.func80,Tryz.ntmps80
 go_wp2_with fail
 refine HN.out.mono ?_
 rintro e w1 ⟨r,cr,rfl,A⟩
 have hI2:=hid (HI.out.call A.below)
 obtain ⟨b3,r3,n3,c3,hx3⟩:=hI2.out.box
 have k0:=hx3.at0
 have k1:=hx3.at1
 have k2:=hx3.frozen 0
 have k3:=hx3.frozen 1
 go_wp2
 have hc0:=(hx3.set bz r L cr).at0
 have hc1:=(hx3.set bz r L cr).at1
 refine bodyPost_ret (by simp [results,Tryz.results80,go_sem,hc0,hc1]; try rfl) rfl ?_
 exact ⟨r,cr,rfl,hI2.out.fin (w1:=w) A.sl (fun b o e=>zhe HI.out.lt (A.fresh b o e)) _ _⟩
theorem yit (w:World)(s:Bool)(p:Option Addr)(n c:Nat)(xs:List Nat)(h:Sl w p n c xs)(hs:n<=35184372088832):
  Calls Tryz.prog 51 #[.agg #[.bool s,.slice p n c]] w fun e w'=>∃ r cr,e=.returned (.agg #[.bool (ng (sg s (val xs))),.slice r (digs (sg s (val xs)).natAbs).length cr])/\Za w w' r cr (sg s (val xs)):=by
 obtain ⟨W,g,hg,hW,c10,c11,c20,c21,HI⟩:=enter1 w s p n c
 have N:=yi8 W s p n c xs (h.below HI.out.below) hs
 obtain ⟨z,hz⟩:∃ z,sg s (val xs)=z:=⟨_,rfl⟩
 rw [hz] at N ⊢
 obtain ⟨L,hL⟩:∃ L,(digs z.natAbs).length=L:=⟨_,rfl⟩
 obtain ⟨bz,hbz⟩:∃ bz,ng z=bz:=⟨_,rfl⟩
 rw [hL,hbz] at N ⊢
 have HN:=hid N
 clear h N hz c20 c21
 go_enter Tryz.func51,Tryz.ntmps51
 go_wp2_with fail
 refine HN.out.mono ?_
 rintro e w1 ⟨r,cr,rfl,A⟩
 have hI2:=hid (HI.out.call A.below)
 obtain ⟨b3,r3,n3,c3,hx3⟩:=hI2.out.box
 have k0:=hx3.at0
 have k1:=hx3.at1
 have k2:=hx3.frozen 0
 have k3:=hx3.frozen 1
 go_wp2
 have hc0:=(hx3.set bz r L cr).at0
 have hc1:=(hx3.set bz r L cr).at1
 refine bodyPost_ret (by simp [results,Tryz.results51,go_sem,hc0,hc1]; try rfl) rfl ?_
 exact ⟨r,cr,rfl,hI2.out.fin (w1:=w) A.sl (fun b o e=>zhe HI.out.lt (A.fresh b o e)) _ _⟩
theorem yzb (w:World)(s t:Bool)(p q:Option Addr)(n c m d:Nat)(xs ys:List Nat)(h:Sl w p n c xs)(h':Sl w q m d ys)(hs:n+m<=70368744177664):
  Calls Tryz.prog 71 #[.agg #[.bool s,.slice p n c],.agg #[.bool t,.slice q m d]] w fun e w'=>∃ r cr,e=.returned (.agg #[.bool (ng (sg s (val xs)*sg t (val ys))),.slice r (digs (sg s (val xs)*sg t (val ys)).natAbs).length cr])/\Za w w' r cr (sg s (val xs)*sg t (val ys)):=by
 obtain ⟨W,g,hg,hW,c10,c11,c20,c21,_,_,HI⟩:=enter2 w s p n c t q m d
 have HX:=hid h
 have HY:=hid h'
 have n0:g+1+1≠g:=by omega
 have n1:g+1+1≠g+1:=by omega
 rw [← yyu]
 clear h h'
 go_enter Tryz.func71,Tryz.ntmps71
 go_wp2
 go_region_held3 (fun w'=>w'.cell? ⟨g,0,none⟩=some (.bool s)/\w'.cell? ⟨g,1,none⟩=some (.slice p n c)/\w'.cell? ⟨g+1,0,none⟩=some (.bool t)/\w'.cell? ⟨g+1,1,none⟩=some (.slice q m d)/\Hid (Inv w w' (g+1+1)))
  (first | exact keepS (by assumption) hBz | exact keepSet (by assumption) n0 n0 n1 n1 | (exact ⟨c10,c11,c20,c21,HI.out.drew⟩))
  (first | (go_at_call 95; refine (zdo _ p q n c m d xs ys (HX.out.below (invOf (by assumption)).below) (HY.out.below (invOf (by assumption)).below) hs).mono ?_; rintro e w1 ⟨r,cr,rfl,R1⟩; have hBz:=R1.below; have HL:=hid (fun b o (e:r=some ⟨b,o,none⟩)=>zhe (invOf (w:=w) (g2:=g+1+1) (by assumption)).lt (R1.own b o e).2.1))
         | (go_at_call 85; refine (ycx _ (s != t) r _ cr (zhb R1.sl.cap R1.sl.max)).mono ?_; rintro e w2 ⟨rfl,hBz⟩; have hI2:=hid ((invOf (w:=w) (g2:=g+1+1) (by assumption)).call hBz); obtain ⟨b3,r3,n3,c3,hx3⟩:=hI2.out.box; have k0:=hx3.at0; have k1:=hx3.at1; have k2:=hx3.frozen 0; have k3:=hx3.frozen 1))
 go_wp2
 have hc0:=(hx3.set (s != t && decide (0 < (digs (val xs*val ys)).length)) r (digs (val xs*val ys)).length cr).at0
 have hc1:=(hx3.set (s != t && decide (0 < (digs (val xs*val ys)).length)) r (digs (val xs*val ys)).length cr).at1
 refine bodyPost_ret (by simp [results,Tryz.results71,go_sem,hc0,hc1]; try rfl) rfl ?_
 refine ⟨r,cr,by rw [sg_abs,← yon],?_⟩
 refine hI2.out.fin (w1:=w) ?_ HL.out _ _
 rw [sg_abs]
 exact R1.sl.below hBz
theorem yoy (w:World)(s t:Bool)(p q:Option Addr)(n c m d:Nat)(xs ys:List Nat)(h:Sl w p n c xs)(h':Sl w q m d ys)(hs:n+m<=35184372088832):
  Calls Tryz.prog 79 #[.agg #[.bool s,.slice p n c],.agg #[.bool t,.slice q m d]] w fun e w'=>∃ r cr,e=.returned (.agg #[.bool (ng (sg s (val xs)*sg t (val ys))),.slice r (digs (sg s (val xs)*sg t (val ys)).natAbs).length cr])/\Za w w' r cr (sg s (val xs)*sg t (val ys)):=by
 obtain ⟨W,g,hg,hW,c10,c11,c20,c21,_,_,HI⟩:=enter2 w s p n c t q m d
 have HX:=hid h
 have HY:=hid h'
 have n0:g+1+1≠g:=by omega
 have n1:g+1+1≠g+1:=by omega
 rw [← yyu]
 have hdl:(digs (val xs*val ys)).length<=35184372088832:=zhb (yaq h.dl h'.dl) hs
 clear h h'
 go_enter Tryz.func79,Tryz.ntmps79
 go_wp2
 go_region_held3 (fun w'=>w'.cell? ⟨g,0,none⟩=some (.bool s)/\w'.cell? ⟨g,1,none⟩=some (.slice p n c)/\w'.cell? ⟨g+1,0,none⟩=some (.bool t)/\w'.cell? ⟨g+1,1,none⟩=some (.slice q m d)/\Hid (Inv w w' (g+1+1)))
  (first | exact keepS (by assumption) hBz | exact keepSet (by assumption) n0 n0 n1 n1 | (exact ⟨c10,c11,c20,c21,HI.out.drew⟩))
  (first | (go_at_call 103; refine (yni _ p q n c m d xs ys (HX.out.below (invOf (by assumption)).below) (HY.out.below (invOf (by assumption)).below) hs).mono ?_; rintro e w1 ⟨r,cr,rfl,R1⟩; have hBz:=R1.below)
         | (go_at_call 65; refine (yi8 _ (s != t) r _ cr _ R1.sl hdl).mono ?_; rintro e w2 ⟨r2,c2,rfl,Z2⟩; rw [yaf]; rw [yaf] at Z2; have hBz:=Z2.below; have HL:=hid (fun b o (e:r2=some ⟨b,o,none⟩)=>zhe (invOf (w:=w) (g2:=g+1+1) (by assumption)).lt (Z2.fresh b o e)); have hI2:=hid ((invOf (w:=w) (g2:=g+1+1) (by assumption)).call hBz); obtain ⟨b3,r3,n3,c3,hx3⟩:=hI2.out.box; have k0:=hx3.at0; have k1:=hx3.at1; have k2:=hx3.frozen 0; have k3:=hx3.frozen 1))
 go_wp2
 have hc0:=(hx3.set (ng (sg (s != t) (val xs*val ys))) r2 ((digs (sg (s != t) (val xs*val ys)).natAbs).length) c2).at0
 have hc1:=(hx3.set (ng (sg (s != t) (val xs*val ys))) r2 ((digs (sg (s != t) (val xs*val ys)).natAbs).length) c2).at1
 refine bodyPost_ret (by simp [results,Tryz.results79,go_sem,hc0,hc1]; try rfl) rfl ?_
 exact ⟨r2,c2,rfl,hI2.out.fin (w1:=w) Z2.sl HL.out _ _⟩
theorem yvj (w:World)(s:Bool)(p q:Option Addr)(n c m d:Nat)(xs ys:List Nat)(h:Sl w p n c xs)(h':Sl w q m d ys)(hs:n<=70368744177663)(hs':m<=70368744177663):
  Calls Tryz.prog 57 #[.agg #[.bool s,.slice p n c],.agg #[.bool s,.slice q m d]] w fun e w'=>∃ r cr,e=.returned (.agg #[.bool (ng (sg s (val xs)+sg s (val ys))),.slice r (digs (sg s (val xs)+sg s (val ys)).natAbs).length cr])/\Za w w' r cr (sg s (val xs)+sg s (val ys)):=by
 obtain ⟨W,g,hg,hW,c10,c11,c20,c21,_,_,HI⟩:=enter2 w s p n c s q m d
 have HX:=hid h
 have HY:=hid h'
 have n0:g+1+1≠g:=by omega
 have n1:g+1+1≠g+1:=by omega
 rw [← yyt]
 clear h h'
 go_enter Tryz.func57,Tryz.ntmps57
 go_wp2
 go_region_held3 (fun w'=>w'.cell? ⟨g,0,none⟩=some (.bool s)/\w'.cell? ⟨g,1,none⟩=some (.slice p n c)/\w'.cell? ⟨g+1,0,none⟩=some (.bool s)/\w'.cell? ⟨g+1,1,none⟩=some (.slice q m d)/\Hid (Inv w w' (g+1+1)))
  (first | exact keepS (by assumption) hBz | exact keepSet (by assumption) n0 n0 n1 n1 | (exact ⟨c10,c11,c20,c21,HI.out.drew⟩))
  (first | (go_at_call 86; refine (yvr _ p q n c m d xs ys (HX.out.below (invOf (by assumption)).below) (HY.out.below (invOf (by assumption)).below) hs hs').mono ?_; rintro e w1 ⟨r,cr,rfl,R1⟩; have hBz:=R1.below; have HL:=hid (fun b o (e:r=some ⟨b,o,none⟩)=>zhe (invOf (w:=w) (g2:=g+1+1) (by assumption)).lt (R1.own b o e).2.1))
         | (go_at_call 85; refine (ycx _ s r _ cr (zhb R1.sl.cap R1.sl.max)).mono ?_; rintro e w2 ⟨rfl,hBz⟩; have hI2:=hid ((invOf (w:=w) (g2:=g+1+1) (by assumption)).call hBz); obtain ⟨b3,r3,n3,c3,hx3⟩:=hI2.out.box; have k0:=hx3.at0; have k1:=hx3.at1; have k2:=hx3.frozen 0; have k3:=hx3.frozen 1))
 go_wp2
 have hc0:=(hx3.set (s && decide (0 < (digs (val xs+val ys)).length)) r ((digs (val xs+val ys)).length) cr).at0
 have hc1:=(hx3.set (s && decide (0 < (digs (val xs+val ys)).length)) r ((digs (val xs+val ys)).length) cr).at1
 refine bodyPost_ret (by simp [results,Tryz.results57,go_sem,hc0,hc1]; try rfl) rfl ?_
 refine ⟨r,cr,by rw [sg_abs,← yon],?_⟩
 refine hI2.out.fin (w1:=w) ?_ HL.out _ _
 rw [sg_abs]
 exact R1.sl.below hBz
theorem yrt (w:World)(s:Bool)(p q:Option Addr)(n c m d:Nat)(xs ys:List Nat)(h:Sl w p n c xs)(h':Sl w q m d ys)(hs:n<=35184372088831)(hs':m<=35184372088831):
  Calls Tryz.prog 33 #[.agg #[.bool s,.slice p n c],.agg #[.bool s,.slice q m d]] w fun e w'=>∃ r cr,e=.returned (.agg #[.bool (ng (sg s (val xs)+sg s (val ys))),.slice r (digs (sg s (val xs)+sg s (val ys)).natAbs).length cr])/\Za w w' r cr (sg s (val xs)+sg s (val ys)):=by
 obtain ⟨W,g,hg,hW,c10,c11,c20,c21,_,_,HI⟩:=enter2 w s p n c s q m d
 have HX:=hid h
 have HY:=hid h'
 have n0:g+1+1≠g:=by omega
 have n1:g+1+1≠g+1:=by omega
 rw [← yyt]
 have hdl:(digs (val xs+val ys)).length<=35184372088832:=yc3 (zhb h.dl hs) (zhb h'.dl hs')
 clear h h'
 go_enter Tryz.func33,Tryz.ntmps33
 go_wp2
 go_region_held3 (fun w'=>w'.cell? ⟨g,0,none⟩=some (.bool s)/\w'.cell? ⟨g,1,none⟩=some (.slice p n c)/\w'.cell? ⟨g+1,0,none⟩=some (.bool s)/\w'.cell? ⟨g+1,1,none⟩=some (.slice q m d)/\Hid (Inv w w' (g+1+1)))
  (first | exact keepS (by assumption) hBz | exact keepSet (by assumption) n0 n0 n1 n1 | (exact ⟨c10,c11,c20,c21,HI.out.drew⟩))
  (first | (go_at_call 66; refine (zd9 _ p q n c m d xs ys (HX.out.below (invOf (by assumption)).below) (HY.out.below (invOf (by assumption)).below) hs hs').mono ?_; rintro e w1 ⟨r,cr,rfl,R1⟩; have hBz:=R1.below)
         | (go_at_call 65; refine (yi8 _ s r _ cr _ R1.sl hdl).mono ?_; rintro e w2 ⟨r2,c2,rfl,Z2⟩; rw [yaf]; rw [yaf] at Z2; have hBz:=Z2.below; have HL:=hid (fun b o (e:r2=some ⟨b,o,none⟩)=>zhe (invOf (w:=w) (g2:=g+1+1) (by assumption)).lt (Z2.fresh b o e)); have hI2:=hid ((invOf (w:=w) (g2:=g+1+1) (by assumption)).call hBz); obtain ⟨b3,r3,n3,c3,hx3⟩:=hI2.out.box; have k0:=hx3.at0; have k1:=hx3.at1; have k2:=hx3.frozen 0; have k3:=hx3.frozen 1))
 go_wp2
 have hc0:=(hx3.set (ng (sg s (val xs+val ys))) r2 ((digs (sg s (val xs+val ys)).natAbs).length) c2).at0
 have hc1:=(hx3.set (ng (sg s (val xs+val ys))) r2 ((digs (sg s (val xs+val ys)).natAbs).length) c2).at1
 refine bodyPost_ret (by simp [results,Tryz.results33,go_sem,hc0,hc1]; try rfl) rfl ?_
 exact ⟨r2,c2,rfl,hI2.out.fin (w1:=w) Z2.sl HL.out _ _⟩
theorem zbt (w:World)(s t:Bool)(p q:Option Addr)(n c m d:Nat)(xs ys:List Nat)(h:Sl w p n c xs)(h':Sl w q m d ys)(hs:n<=70368744177664)(hst:s≠t)(hle:val ys<=val xs):
  Calls Tryz.prog 57 #[.agg #[.bool s,.slice p n c],.agg #[.bool t,.slice q m d]] w fun e w'=>∃ r cr,e=.returned (.agg #[.bool (ng (sg s (val xs)+sg t (val ys))),.slice r (digs (sg s (val xs)+sg t (val ys)).natAbs).length cr])/\Za w w' r cr (sg s (val xs)+sg t (val ys)):=by
 obtain ⟨W,g,hg,hW,c10,c11,c20,c21,_,_,HI⟩:=enter2 w s p n c t q m d
 have HX:=hid h
 have HY:=hid h'
 have n0:g+1+1≠g:=by omega
 have n1:g+1+1≠g+1:=by omega
 rw [← zen hst hle,sg_abs]
 have hbe:(s == t)=false:=by simpa using hst
 have C:=hid (zbk W p q n c m d xs ys (h.below HI.out.below) (h'.below HI.out.below) hs hle)
 clear h h' hst
 go_enter Tryz.func57,Tryz.ntmps57
 go_wp2_with fail
 refine C.out.mono ?_
 rintro e w1 ⟨r,cr,rfl,R1⟩
 have hI1:=hid (HI.out.call R1.below)
 replace c10:=yac c10 R1.below
 replace c11:=yac c11 R1.below
 replace c20:=yac c20 R1.below
 replace c21:=yac c21 R1.below
 obtain ⟨L,hL⟩:∃ L,(digs (val xs-val ys)).length=L:=⟨_,rfl⟩
 have hsl:=R1.sl
 rw [hL] at hsl ⊢
 go_wp2_with fail
 refine (ycx _ s r L cr (zhb hsl.cap hsl.max)).mono ?_
 rintro e w2 ⟨rfl,hB2⟩
 have hI2:=hid (hI1.out.call hB2)
 obtain ⟨b3,r3,n3,c3,hx3⟩:=hI2.out.box
 have k0:=hx3.at0
 have k1:=hx3.at1
 have k2:=hx3.frozen 0
 have k3:=hx3.frozen 1
 go_wp2
 have hc0:=(hx3.set (s && decide (0 < L)) r (L) cr).at0
 have hc1:=(hx3.set (s && decide (0 < L)) r (L) cr).at1
 refine bodyPost_ret (by simp [results,Tryz.results57,go_sem,hc0,hc1]; try rfl) rfl ?_
 refine ⟨r,cr,by rw [← yqc s hL,hL],hI2.out.fin (w1:=w) ?_ (fun b o e=>zhe HI.out.lt (R1.own b o e).2.1) _ _⟩
 rw [sg_abs]
 exact R1.sl.below hB2
theorem zbu (w:World)(s t:Bool)(p q:Option Addr)(n c m d:Nat)(xs ys:List Nat)(h:Sl w p n c xs)(h':Sl w q m d ys)(hs:m<=70368744177664)(hst:s≠t)(hlt:val xs < val ys):
  Calls Tryz.prog 57 #[.agg #[.bool s,.slice p n c],.agg #[.bool t,.slice q m d]] w fun e w'=>∃ r cr,e=.returned (.agg #[.bool (ng (sg s (val xs)+sg t (val ys))),.slice r (digs (sg s (val xs)+sg t (val ys)).natAbs).length cr])/\Za w w' r cr (sg s (val xs)+sg t (val ys)):=by
 obtain ⟨W,g,hg,hW,c10,c11,c20,c21,_,_,HI⟩:=enter2 w s p n c t q m d
 have HX:=hid h
 have HY:=hid h'
 have n0:g+1+1≠g:=by omega
 have n1:g+1+1≠g+1:=by omega
 rw [← zeo hst (zi4 hlt),sg_abs]
 have hbe:(s == t)=false:=by simpa using hst
 have C:=hid (yu3 W p q n c m d xs ys (h.below HI.out.below) (h'.below HI.out.below) hlt)
 have C2:Hid (∀ W',Below w.heap.size w W'->Calls Tryz.prog 87 #[.slice q m d,.slice p n c] W' fun e w'=>∃ r cr,e=.returned (.tuple #[.slice r (digs (val ys-val xs)).length cr,.int .i64 0])/\Res W' w' r cr (val ys-val xs)):=fun W' hb=>zbk W' q p m d n c ys xs (HY.out.below hb) (HX.out.below hb) hs (zi4 hlt)
 clear h h' hst
 go_enter Tryz.func57,Tryz.ntmps57
 go_wp2_with fail
 refine C.out.mono ?_
 rintro e w0 ⟨rfl,nq,rfl⟩
 have hB0:Below W.heap.size W (W.drewN nq):=ybq (Below.refl _ _) nq
 have hI0:=hid (HI.out.call hB0)
 replace c10:=yac c10 hB0
 replace c11:=yac c11 hB0
 replace c20:=yac c20 hB0
 replace c21:=yac c21 hB0
 generalize W.drewN nq=W0 at *
 go_wp2_with fail
 refine (C2.out _ hI0.out.below).mono ?_
 rintro e w1 ⟨r,cr,rfl,R1⟩
 have hI1:=hid (hI0.out.call R1.below)
 replace c10:=yac c10 R1.below
 replace c11:=yac c11 R1.below
 replace c20:=yac c20 R1.below
 replace c21:=yac c21 R1.below
 obtain ⟨L,hL⟩:∃ L,(digs (val ys-val xs)).length=L:=⟨_,rfl⟩
 have hsl:=R1.sl
 rw [hL] at hsl ⊢
 go_wp2_with fail
 refine (ycx _ t r L cr (zhb hsl.cap hsl.max)).mono ?_
 rintro e w2 ⟨rfl,hB2⟩
 have hI2:=hid (hI1.out.call hB2)
 obtain ⟨b3,r3,n3,c3,hx3⟩:=hI2.out.box
 have k0:=hx3.at0
 have k1:=hx3.at1
 have k2:=hx3.frozen 0
 have k3:=hx3.frozen 1
 go_wp2
 have hc0:=(hx3.set (t && decide (0 < L)) r (L) cr).at0
 have hc1:=(hx3.set (t && decide (0 < L)) r (L) cr).at1
 refine bodyPost_ret (by simp [results,Tryz.results57,go_sem,hc0,hc1]; try rfl) rfl ?_
 refine ⟨r,cr,by rw [← yqc t hL,hL],hI2.out.fin (w1:=w) ?_ (fun b o e=>zhe hI0.out.lt (R1.own b o e).2.1) _ _⟩
 rw [sg_abs]
 exact R1.sl.below hB2
theorem yy9 (w:World)(s t:Bool)(p q:Option Addr)(n c m d:Nat)(xs ys:List Nat)(h:Sl w p n c xs)(h':Sl w q m d ys)(hs:n<=70368744177663)(hs':m<=70368744177663):
  Calls Tryz.prog 57 #[.agg #[.bool s,.slice p n c],.agg #[.bool t,.slice q m d]] w fun e w'=>∃ r cr,e=.returned (.agg #[.bool (ng (sg s (val xs)+sg t (val ys))),.slice r (digs (sg s (val xs)+sg t (val ys)).natAbs).length cr])/\Za w w' r cr (sg s (val xs)+sg t (val ys)):=by
 by_cases e:s=t
 ·subst e
  exact yvj w s p q n c m d xs ys h h' hs hs'
 ·by_cases hl:val ys<=val xs
  ·exact zbt w s t p q n c m d xs ys h h' (by omega) e hl
  ·exact zbu w s t p q n c m d xs ys h h' (by omega) e (by omega)
theorem yxq (w:World)(s t:Bool)(p q:Option Addr)(n c m d:Nat)(xs ys:List Nat)(h:Sl w p n c xs)(h':Sl w q m d ys)(hs:n<=35184372088831)(hst:s≠t)(hle:val ys<=val xs):
  Calls Tryz.prog 33 #[.agg #[.bool s,.slice p n c],.agg #[.bool t,.slice q m d]] w fun e w'=>∃ r cr,e=.returned (.agg #[.bool (ng (sg s (val xs)+sg t (val ys))),.slice r (digs (sg s (val xs)+sg t (val ys)).natAbs).length cr])/\Za w w' r cr (sg s (val xs)+sg t (val ys)):=by
 obtain ⟨W,g,hg,hW,c10,c11,c20,c21,_,_,HI⟩:=enter2 w s p n c t q m d
 have HX:=hid h
 have HY:=hid h'
 have n0:g+1+1≠g:=by omega
 have n1:g+1+1≠g+1:=by omega
 rw [← zen hst hle]
 have hbe:(s == t)=false:=by simpa using hst
 have C0:=yid W p q n c m d xs ys (h.below HI.out.below) (h'.below HI.out.below)
 obtain ⟨cv,hcv⟩:∃ cv,cmpN (val xs) (val ys)=cv:=⟨_,rfl⟩
 rw [hcv] at C0
 have hcv0:0<=cv:=by
  rw [← hcv]
  unfold cmpN
  by_cases e1:val xs=val ys <;> simp [show ¬ val xs < val ys from by omega,e1]
 have C:=hid C0
 have hdl:(digs (val xs-val ys)).length<=35184372088832:=zhb (yag (zk7 _ _)) (zhb h.dl (by omega))
 have C2:=hid (yyq W p q n c m d xs ys (h.below HI.out.below) (h'.below HI.out.below) (by omega) hle)
 clear h h' hst C0 hcv
 go_enter Tryz.func33,Tryz.ntmps33
 go_wp2_with fail
 refine C.out.mono ?_
 rintro e w0 ⟨rfl,rfl⟩
 go_wp2_with fail
 refine C2.out.mono ?_
 rintro e w1 ⟨r,cr,rfl,R1⟩
 have hI1:=hid (HI.out.call R1.below)
 replace c10:=yac c10 R1.below
 replace c11:=yac c11 R1.below
 replace c20:=yac c20 R1.below
 replace c21:=yac c21 R1.below
 obtain ⟨L,hL⟩:∃ L,(digs (val xs-val ys)).length=L:=⟨_,rfl⟩
 have hsl:=R1.sl
 have MD:=yi8 w1 s r _ cr _ R1.sl hdl
 rw [yaf] at MD
 rw [hL] at hsl MD ⊢
 have HMD:=hid MD
 clear MD
 go_wp2_with fail
 refine HMD.out.mono ?_
 rintro e w2 ⟨r2,c2,rfl,Z2⟩
 have hI2:=hid (hI1.out.call Z2.below)
 obtain ⟨b3,r3,n3,c3,hx3⟩:=hI2.out.box
 have k0:=hx3.at0
 have k1:=hx3.at1
 have k2:=hx3.frozen 0
 have k3:=hx3.frozen 1
 go_wp2
 have hc0:=(hx3.set (ng (sg s (val xs-val ys))) r2 ((digs (sg s (val xs-val ys)).natAbs).length) c2).at0
 have hc1:=(hx3.set (ng (sg s (val xs-val ys))) r2 ((digs (sg s (val xs-val ys)).natAbs).length) c2).at1
 refine bodyPost_ret (by simp [results,Tryz.results33,go_sem,hc0,hc1]; try rfl) rfl ?_
 exact ⟨r2,c2,rfl,hI2.out.fin (w1:=w) Z2.sl (fun b o e=>zhe hI1.out.lt (Z2.fresh b o e)) _ _⟩
theorem yxr (w:World)(s t:Bool)(p q:Option Addr)(n c m d:Nat)(xs ys:List Nat)(h:Sl w p n c xs)(h':Sl w q m d ys)(hs:m<=35184372088831)(hst:s≠t)(hlt:val xs < val ys):
  Calls Tryz.prog 33 #[.agg #[.bool s,.slice p n c],.agg #[.bool t,.slice q m d]] w fun e w'=>∃ r cr,e=.returned (.agg #[.bool (ng (sg s (val xs)+sg t (val ys))),.slice r (digs (sg s (val xs)+sg t (val ys)).natAbs).length cr])/\Za w w' r cr (sg s (val xs)+sg t (val ys)):=by
 obtain ⟨W,g,hg,hW,c10,c11,c20,c21,_,_,HI⟩:=enter2 w s p n c t q m d
 have HX:=hid h
 have HY:=hid h'
 have n0:g+1+1≠g:=by omega
 have n1:g+1+1≠g+1:=by omega
 rw [← zeo hst (zi4 hlt)]
 have hbe:(s == t)=false:=by simpa using hst
 have C0:=yid W p q n c m d xs ys (h.below HI.out.below) (h'.below HI.out.below)
 obtain ⟨cv,hcv⟩:∃ cv,cmpN (val xs) (val ys)=cv:=⟨_,rfl⟩
 rw [hcv] at C0
 have hcv0:cv < 0:=by
  rw [← hcv]
  unfold cmpN
  simp [hlt]
 have C:=hid C0
 have hdl:(digs (val ys-val xs)).length<=35184372088832:=zhb (yag (zk7 _ _)) (zhb h'.dl (by omega))
 have C2:=hid (yyq W q p m d n c ys xs (h'.below HI.out.below) (h.below HI.out.below) (by omega) (zi4 hlt))
 clear h h' hst C0 hcv
 go_enter Tryz.func33,Tryz.ntmps33
 go_wp2_with fail
 refine C.out.mono ?_
 rintro e w0 ⟨rfl,rfl⟩
 go_wp2_with fail
 refine C2.out.mono ?_
 rintro e w1 ⟨r,cr,rfl,R1⟩
 have hI1:=hid (HI.out.call R1.below)
 replace c10:=yac c10 R1.below
 replace c11:=yac c11 R1.below
 replace c20:=yac c20 R1.below
 replace c21:=yac c21 R1.below
 obtain ⟨L,hL⟩:∃ L,(digs (val ys-val xs)).length=L:=⟨_,rfl⟩
 have hsl:=R1.sl
 have MD:=yi8 w1 t r _ cr _ R1.sl hdl
 rw [yaf] at MD
 rw [hL] at hsl MD ⊢
 have HMD:=hid MD
 clear MD
 go_wp2_with fail
 refine HMD.out.mono ?_
 rintro e w2 ⟨r2,c2,rfl,Z2⟩
 have hI2:=hid (hI1.out.call Z2.below)
 obtain ⟨b3,r3,n3,c3,hx3⟩:=hI2.out.box
 have k0:=hx3.at0
 have k1:=hx3.at1
 have k2:=hx3.frozen 0
 have k3:=hx3.frozen 1
 go_wp2
 have hc0:=(hx3.set (ng (sg t (val ys-val xs))) r2 ((digs (sg t (val ys-val xs)).natAbs).length) c2).at0
 have hc1:=(hx3.set (ng (sg t (val ys-val xs))) r2 ((digs (sg t (val ys-val xs)).natAbs).length) c2).at1
 refine bodyPost_ret (by simp [results,Tryz.results33,go_sem,hc0,hc1]; try rfl) rfl ?_
 exact ⟨r2,c2,rfl,hI2.out.fin (w1:=w) Z2.sl (fun b o e=>zhe hI1.out.lt (Z2.fresh b o e)) _ _⟩
theorem yvo (w:World)(s t:Bool)(p q:Option Addr)(n c m d:Nat)(xs ys:List Nat)(h:Sl w p n c xs)(h':Sl w q m d ys)(hs:n<=35184372088831)(hs':m<=35184372088831):
  Calls Tryz.prog 33 #[.agg #[.bool s,.slice p n c],.agg #[.bool t,.slice q m d]] w fun e w'=>∃ r cr,e=.returned (.agg #[.bool (ng (sg s (val xs)+sg t (val ys))),.slice r (digs (sg s (val xs)+sg t (val ys)).natAbs).length cr])/\Za w w' r cr (sg s (val xs)+sg t (val ys)):=by
 by_cases e:s=t
 ·subst e
  exact yrt w s p q n c m d xs ys h h' hs hs'
 ·by_cases hl:val ys<=val xs
  ·exact yxq w s t p q n c m d xs ys h h' (by omega) e hl
  ·exact yxr w s t p q n c m d xs ys h h' (by omega) e (by omega)
theorem yzf (w:World)(s t:Bool)(p q:Option Addr)(n c m d:Nat)(xs ys:List Nat)(h:Sl w p n c xs)(h':Sl w q m d ys)(hs:n<=70368744177663)(hs':m<=70368744177663):
  Calls Tryz.prog 58 #[.agg #[.bool s,.slice p n c],.agg #[.bool t,.slice q m d]] w fun e w'=>∃ r cr,e=.returned (.agg #[.bool (ng (sg s (val xs)-sg t (val ys))),.slice r (digs (sg s (val xs)-sg t (val ys)).natAbs).length cr])/\Za w w' r cr (sg s (val xs)-sg t (val ys)):=by
 obtain ⟨W,g,hg,hW,c10,c11,c20,c21,_,_,HI⟩:=enter2 w s p n c t q m d
 have HX:=hid h
 have HY:=hid h'
 have n0:g+1+1≠g:=by omega
 have n1:g+1+1≠g+1:=by omega
 have N:=yy9 W s (!t) p q n c m d xs ys (h.below HI.out.below) (h'.below HI.out.below) hs hs'
 rw [ynn,← Int.sub_eq_add_neg] at N
 obtain ⟨z,hz⟩:∃ z,sg s (val xs)-sg t (val ys)=z:=⟨_,rfl⟩
 rw [hz] at N ⊢
 obtain ⟨L,hL⟩:∃ L,(digs z.natAbs).length=L:=⟨_,rfl⟩
 obtain ⟨bz,hbz⟩:∃ bz,ng z=bz:=⟨_,rfl⟩
 rw [hL,hbz] at N ⊢
 have HN:=hid N
 clear h h' N hz
 go_enter Tryz.func58,Tryz.ntmps58
 go_wp2_with fail
 refine HN.out.mono ?_
 rintro e w1 ⟨r,cr,rfl,A⟩
 have hI2:=hid (HI.out.call A.below)
 obtain ⟨b3,r3,n3,c3,hx3⟩:=hI2.out.box
 have k0:=hx3.at0
 have k1:=hx3.at1
 have k2:=hx3.frozen 0
 have k3:=hx3.frozen 1
 go_wp2
 have hc0:=(hx3.set (bz) r (L) cr).at0
 have hc1:=(hx3.set (bz) r (L) cr).at1
 refine bodyPost_ret (by simp [results,Tryz.results58,go_sem,hc0,hc1]; try rfl) rfl ?_
 exact ⟨r,cr,rfl,hI2.out.fin (w1:=w) A.sl (fun b o e=>zhe HI.out.lt (A.fresh b o e)) _ _⟩
theorem zbw (w:World)(s t:Bool)(p q:Option Addr)(n c m d:Nat)(xs ys:List Nat)(h:Sl w p n c xs)(h':Sl w q m d ys)(hs:n<=35184372088831)(hs':m<=35184372088831):
  Calls Tryz.prog 53 #[.agg #[.bool s,.slice p n c],.agg #[.bool t,.slice q m d]] w fun e w'=>∃ r cr,e=.returned (.agg #[.bool (ng (sg s (val xs)-sg t (val ys))),.slice r (digs (sg s (val xs)-sg t (val ys)).natAbs).length cr])/\Za w w' r cr (sg s (val xs)-sg t (val ys)):=by
 obtain ⟨W,g,hg,hW,c10,c11,c20,c21,_,_,HI⟩:=enter2 w s p n c t q m d
 have HX:=hid h
 have HY:=hid h'
 have n0:g+1+1≠g:=by omega
 have n1:g+1+1≠g+1:=by omega
 have hdl:(digs (- sg t (val ys)).natAbs).length<=35184372088831:=by
  rw [Int.natAbs_neg,sg_abs]
  exact zhb h'.dl hs'
 obtain ⟨z,hz⟩:∃ z,sg s (val xs)-sg t (val ys)=z:=⟨_,rfl⟩
 have ez:sg s (val xs)+sg (ng (- sg t (val ys))) (val (digs (- sg t (val ys)).natAbs))=z:=by rw [yaf,yh1,← hz,Int.sub_eq_add_neg]
 rw [hz]
 obtain ⟨y,hy⟩:∃ y,- sg t (val ys)=y:=⟨_,rfl⟩
 obtain ⟨by',hby⟩:∃ b,ng y=b:=⟨_,rfl⟩
 obtain ⟨Ly,hLy⟩:∃ L,(digs y.natAbs).length=L:=⟨_,rfl⟩
 obtain ⟨Dy,hDy⟩:∃ D,digs y.natAbs=D:=⟨_,rfl⟩
 obtain ⟨bz,hbz⟩:∃ b,ng z=b:=⟨_,rfl⟩
 obtain ⟨Lz,hLz⟩:∃ L,(digs z.natAbs).length=L:=⟨_,rfl⟩
 rw [hy] at hdl ez
 rw [hLy] at hdl
 rw [hby,hDy] at ez
 have NEG:Hid (∀ W',Below w.heap.size w W'->Calls Tryz.prog 80 #[.agg #[.bool t,.slice q m d]] W' fun e w'=>∃ r cr,e=.returned (.agg #[.bool by',.slice r Ly cr])/\Below W'.heap.size W' w'/\Sl w' r Ly cr Dy):=by
  intro W' hb
  have:=yvp W' t q m d ys (h'.below hb) (by omega)
  rw [hy,hby,hLy] at this
  refine this.mono ?_
  rintro e w' ⟨r,cr,rfl,Z⟩
  have:=Z.sl
  rw [hLy,hDy] at this
  exact ⟨r,cr,rfl,Z.below,this⟩
 have ADD:Hid (∀ W' (r:Option Addr) (cr:Nat),Below w.heap.size w W'->Sl W' r Ly cr Dy->Calls Tryz.prog 33 #[.agg #[.bool s,.slice p n c],.agg #[.bool by',.slice r Ly cr]] W' fun e w'=>∃ r cr,e=.returned (.agg #[.bool bz,.slice r Lz cr])/\Za W' w' r cr z):=by
  intro W' r cr hb hr
  have:=yvo W' s by' p r n c Ly cr xs Dy (h.below hb) hr hs hdl
  rw [ez,hbz,hLz] at this
  exact this
 rw [hbz,hLz]
 clear h h' hz hy ez
 go_enter Tryz.func53,Tryz.ntmps53
 go_wp2
 go_region_held3 (fun w'=>w'.cell? ⟨g,0,none⟩=some (.bool s)/\w'.cell? ⟨g,1,none⟩=some (.slice p n c)/\w'.cell? ⟨g+1,0,none⟩=some (.bool t)/\w'.cell? ⟨g+1,1,none⟩=some (.slice q m d)/\Hid (Inv w w' (g+1+1)))
  (first | exact keepS (by assumption) hBz | exact keepSet (by assumption) n0 n0 n1 n1 | (exact ⟨c10,c11,c20,c21,HI.out.drew⟩))
  (first | (go_at_call 80; refine (NEG.out _ (invOf (by assumption)).below).mono ?_; rintro e w1 ⟨r,cr,rfl,hBz,R1⟩; have HR:=hid R1)
         | (go_at_call 33; refine (ADD.out _ r cr (invOf (by assumption)).below HR.out).mono ?_; rintro e w2 ⟨r2,c2,rfl,Z2⟩; have hBz:=Z2.below; have HL:=hid (fun b o (e:r2=some ⟨b,o,none⟩)=>zhe (invOf (w:=w) (g2:=g+1+1) (by assumption)).lt (Z2.fresh b o e)); have hI2:=hid ((invOf (w:=w) (g2:=g+1+1) (by assumption)).call hBz); obtain ⟨b3,r3,n3,c3,hx3⟩:=hI2.out.box; have k0:=hx3.at0; have k1:=hx3.at1; have k2:=hx3.frozen 0; have k3:=hx3.frozen 1))
 go_wp2
 have hc0:=(hx3.set (bz) r2 (Lz) c2).at0
 have hc1:=(hx3.set (bz) r2 (Lz) c2).at1
 refine bodyPost_ret (by simp [results,Tryz.results53,go_sem,hc0,hc1]; try rfl) rfl ?_
 exact ⟨r2,c2,rfl,hI2.out.fin (w1:=w) Z2.sl HL.out _ _⟩
end Go.Proofs.YtdnindaohpdblaaGreat
