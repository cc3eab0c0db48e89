import Derived.Test.YtdnindaohpdblaaGreatRsD
import Derived.Test.YtdnindaohpdblaaGreatRsF
import Derived.Laws.Append
import Derived.Laws.IdiomStrings
set_option linter.all false
namespace Go.Proofs.YtdnindaohpdblaaGreat
open Go.RowKit Nt
set_option maxRecDepth 20000
set_option maxHeartbeats 16000000

theorem yyk {w w2:World}{gr:Nat}{A:Int}{k:Nat}{r1 r2:Option Addr}{c1 c2 L1 L2:Nat}{b1:Bool}{D1:List Nat}{s t:Bool}{p q:Option Addr}{n c m d:Nat}(hx:RBox w2 gr s p n c t q m d)(hB:Below w.heap.size w w2)(hg:w.heap.size<=gr)
  (S1:Sl w2 r1 L1 c1 D1) (S2:Sl w2 r2 L2 c2 (digs 1)) (F1:∀ b o,r1=some ⟨b,o,none⟩->gr < b) (F2:∀ b o,r2=some ⟨b,o,none⟩->gr < b) (N1:Nm b1 L1 D1 A) (hL:L1<=k) (hL2:L2<=1):
  Rt w A 1 k 1 (.returned (.agg #[.bool b1,.slice r1 L1 c1,.bool false,.slice r2 L2 c2])) ((((w2.setCell ⟨gr,0,none⟩ (.bool b1)).setCell ⟨gr,1,none⟩ (.slice r1 L1 c1)).setCell ⟨gr,2,none⟩ (.bool false)).setCell ⟨gr,3,none⟩ (.slice r2 L2 c2)):=
 ⟨b1,L1,D1,r1,c1,L2,r2,c2,rfl,yen hB hg,ye8 S1 (fun b o e=>by have:=F1 b o e; omega),ye8 S2 (fun b o e=>by have:=F2 b o e; omega),N1,hL,hL2,fun b o e=>by have:=F1 b o e; omega,fun b o e=>by have:=F2 b o e; omega⟩
theorem zax (w:World)(s:Bool)(p:Option Addr)(n c:Nat)(xs:List Nat)(h:Sl w p n c xs)(hs:n<=70368744177663):
  Calls Tryz.prog 55 #[.agg #[.bool s,.slice p n c]] w (Rt w (sg s (val xs)) 1 n 1):=by
 have B1:=yam w (.cells #[.bool s,.slice p n c] 24)
 have B2:=yam (w.alloc (.cells #[.bool s,.slice p n c] 24)) (.cells #[.bool false,.slice none 0 0,.bool false,.slice none 0 0] 26)
 have X1:=(ybw w s p n c).below B2
 have X2:=yc2 (w.alloc (.cells #[.bool s,.slice p n c] 24)) false none 0 0 false none 0 0
 rw [show (w.alloc (.cells #[.bool s,.slice p n c] 24)).heap.size=w.heap.size+1 from by simp] at X2
 have HB:=hid (B1.trans (B2.mono B1.size))
 obtain ⟨W,hW⟩:∃ W,(w.alloc (.cells #[.bool s,.slice p n c] 24)).alloc (.cells #[.bool false,.slice none 0 0,.bool false,.slice none 0 0] 26)=W:=⟨_,rfl⟩
 rw [hW] at X1 X2 HB
 obtain ⟨g,hg⟩:∃ g,w.heap.size=g:=⟨_,rfl⟩
 rw [hg] at X1 X2
 have a0:=X1.at0
 have a1:=X1.at1
 have HX2:=hid X2
 have hl:=X2.lt
 have FM:=yox W s p n c xs (h.below HB.out) (by omega)
 have ln:(digs (sg s (val xs)).natAbs).length<=n:=by rw [sg_abs]; exact h.dl
 obtain ⟨z,hz⟩:∃ z,sg s (val xs)=z:=⟨_,rfl⟩
 rw [hz] at FM ln ⊢
 obtain ⟨L,hL⟩:∃ L,(digs z.natAbs).length=L:=⟨_,rfl⟩
 obtain ⟨b,hb⟩:∃ b,ng z=b:=⟨_,rfl⟩
 have NM:=Nm.mk' z
 rw [hL,hb] at FM NM
 rw [hL] at ln
 have HFM:=hid FM
 have HNM:=hid NM
 have HLL:=hid hL
 have ON:=hid (fun (W':World)=>zfg W' 1 (by omega) (by omega))
 have e1:ng 1=false:=by decide
 have e2:(digs (1:Int).natAbs).length=1:=by rw [show (1:Int).natAbs=1 from rfl,yfb (by omega) (by omega)]; rfl
 rw [e1,e2] at ON
 have HE2:=hid e2
 clear h B1 B2 X1 X2 FM NM hz hL hb e1 e2
 go_enter Tryz.func55,Tryz.ntmps55
 go_wp2_with fail
 refine HFM.out.mono ?_
 rintro e w1 ⟨r1,c1,rfl,Z1⟩
 have S1:Hid (Sl w1 r1 L c1 (digs z.natAbs)):=by have:=Z1.sl; rwa [HLL.out] at this
 have F1:=hid Z1.fresh
 have HB1:=hid (HB.out.trans (Z1.below.mono HB.out.size))
 have HX3:=hid (HX2.out.below Z1.below)
 have hl1:=Z1.below.size
 clear Z1 HFM hW a0 a1 HX2
 go_wp2_with fail
 refine (ON.out w1).mono ?_
 rintro e w2 ⟨r2,c2,rfl,Z2⟩
 have S2:Hid (Sl w2 r2 1 c2 (digs 1)):=by have:=Z2.sl; rwa [HE2.out] at this
 have F2:=hid Z2.fresh
 have S1':=hid (S1.out.below Z2.below)
 have HB2:=hid (HB1.out.trans (Z2.below.mono HB1.out.size))
 have x3:=HX3.out.below Z2.below
 have k0:=x3.at0
 have k1:=x3.at1
 have k2:=x3.at2
 have k3:=x3.at3
 have k4:=x3.frozen 0
 have k5:=x3.frozen 1
 have k6:=x3.frozen 2
 have k7:=x3.frozen 3
 clear Z2 ON S1 HX3
 go_wp2
 have hc:=x3.set b r1 L c1 false r2 1 c2
 have hc0:=hc.at0
 have hc1:=hc.at1
 have hc2:=hc.at2
 have hc3:=hc.at3
 refine bodyPost_ret (by simp [results,Tryz.results55,go_sem,hc0,hc1,hc2,hc3]; try rfl) rfl ?_
 exact yyk x3 HB2.out (by omega) S1'.out S2.out (fun b o e=>by have:=F1.out b o e; omega) (fun b o e=>by have:=F2.out b o e; omega) HNM.out ln (zha _)
theorem zef (w:World):Calls Tryz.prog 52 #[] w fun e w'=>∃ r cr,e=.returned (.agg #[.bool false,.slice r 1 cr])/\Za w w' r cr 1:=by
 obtain ⟨W,g,hg,hW,c00,c01,HI⟩:=enter0 w
 have ON:=yze W 1 (by omega) (by omega)
 have e1:ng 1=false:=by decide
 have e2:(digs (1:Int).natAbs).length=1:=by rw [show (1:Int).natAbs=1 from rfl,yfb (by omega) (by omega)]; rfl
 rw [e1,e2] at ON
 have HON:=hid ON
 have HE:=hid e2
 have hgl:=HI.out.lt
 clear ON e1 e2
 go_enter Tryz.func52,Tryz.ntmps52
 go_wp2_with (go_at_call 34; refine HON.out.mono ?_; rintro e w2 ⟨r,cr,rfl,Z⟩; have hI2:=hid (HI.out.call Z.below); have HZ:=hid Z; obtain ⟨b3,r3,n3,c3,hx3⟩:=hI2.out.box; have k0:=hx3.at0; have k1:=hx3.at1; have k2:=hx3.frozen 0; have k3:=hx3.frozen 1; clear Z)
 have hc0:=fun b=>(hx3.set b r 1 cr).at0
 have hc1:=fun b=>(hx3.set b r 1 cr).at1
 refine bodyPost_ret (by simp [results,Tryz.results52,go_sem,hc0,hc1]; try rfl) rfl ?_
 refine ⟨r,cr,by simp,(hI2.out.set _ _ _ _).below,yc4 HZ.out.sl (fun b o e=>by have:=HZ.out.fresh b o e; omega),fun b o e=>by have:=HZ.out.fresh b o e; omega⟩
theorem zgn (w:World)(s:Bool)(p:Option Addr)(n c:Nat)(xs:List Nat)(h:Sl w p n c xs)(hs:n<=35184372088832):
  Calls Tryz.prog 23 #[.agg #[.bool s,.slice p n c]] w (Rt w (sg s (val xs)) 1 n 1):=by
 have B1:=yam w (.cells #[.bool s,.slice p n c] 24)
 have B2:=yam (w.alloc (.cells #[.bool s,.slice p n c] 24)) (.cells #[.bool false,.slice none 0 0,.bool false,.slice none 0 0] 26)
 have X1:=(ybw w s p n c).below B2
 have X2:=yc2 (w.alloc (.cells #[.bool s,.slice p n c] 24)) false none 0 0 false none 0 0
 rw [show (w.alloc (.cells #[.bool s,.slice p n c] 24)).heap.size=w.heap.size+1 from by simp] at X2
 have HB:=hid (B1.trans (B2.mono B1.size))
 obtain ⟨W,hW⟩:∃ W,(w.alloc (.cells #[.bool s,.slice p n c] 24)).alloc (.cells #[.bool false,.slice none 0 0,.bool false,.slice none 0 0] 26)=W:=⟨_,rfl⟩
 rw [hW] at X1 X2 HB
 obtain ⟨g,hg⟩:∃ g,w.heap.size=g:=⟨_,rfl⟩
 rw [hg] at X1 X2
 have a0:=X1.at0
 have a1:=X1.at1
 have HX2:=hid X2
 have hl:=X2.lt
 have FM:=yit W s p n c xs (h.below HB.out) (by omega)
 have ln:(digs (sg s (val xs)).natAbs).length<=n:=by rw [sg_abs]; exact h.dl
 obtain ⟨z,hz⟩:∃ z,sg s (val xs)=z:=⟨_,rfl⟩
 rw [hz] at FM ln ⊢
 obtain ⟨L,hL⟩:∃ L,(digs z.natAbs).length=L:=⟨_,rfl⟩
 obtain ⟨b,hb⟩:∃ b,ng z=b:=⟨_,rfl⟩
 have NM:=Nm.mk' z
 rw [hL,hb] at FM NM
 rw [hL] at ln
 have HFM:=hid FM
 have HNM:=hid NM
 have HLL:=hid hL
 have ON:=hid (fun (W':World)=>zef W')
 have e2:(digs (1:Int).natAbs).length=1:=by rw [show (1:Int).natAbs=1 from rfl,yfb (by omega) (by omega)]; rfl
 have HE2:=hid e2
 clear h B1 B2 X1 X2 FM NM hz hL hb e2
 go_enter Tryz.func23,Tryz.ntmps23
 go_wp2_with fail
 refine HFM.out.mono ?_
 rintro e w1 ⟨r1,c1,rfl,Z1⟩
 have S1:Hid (Sl w1 r1 L c1 (digs z.natAbs)):=by have:=Z1.sl; rwa [HLL.out] at this
 have F1:=hid Z1.fresh
 have HB1:=hid (HB.out.trans (Z1.below.mono HB.out.size))
 have HX3:=hid (HX2.out.below Z1.below)
 have hl1:=Z1.below.size
 clear Z1 HFM hW a0 a1 HX2
 go_wp2_with fail
 refine (ON.out w1).mono ?_
 rintro e w2 ⟨r2,c2,rfl,Z2⟩
 have S2:Hid (Sl w2 r2 1 c2 (digs 1)):=by have:=Z2.sl; rwa [HE2.out] at this
 have F2:=hid Z2.fresh
 have S1':=hid (S1.out.below Z2.below)
 have HB2:=hid (HB1.out.trans (Z2.below.mono HB1.out.size))
 have x3:=HX3.out.below Z2.below
 have k0:=x3.at0
 have k1:=x3.at1
 have k2:=x3.at2
 have k3:=x3.at3
 have k4:=x3.frozen 0
 have k5:=x3.frozen 1
 have k6:=x3.frozen 2
 have k7:=x3.frozen 3
 clear Z2 ON S1 HX3
 go_wp2
 have hc:=x3.set b r1 L c1 false r2 1 c2
 have hc0:=hc.at0
 have hc1:=hc.at1
 have hc2:=hc.at2
 have hc3:=hc.at3
 refine bodyPost_ret (by simp [results,Tryz.results23,go_sem,hc0,hc1,hc2,hc3]; try rfl) rfl ?_
 exact yyk x3 HB2.out (by omega) S1'.out S2.out (fun b o e=>by have:=F1.out b o e; omega) (fun b o e=>by have:=F2.out b o e; omega) HNM.out ln (zha _)








end Go.Proofs.YtdnindaohpdblaaGreat
