import Derived.Test.YtdnindaohpdblaaGreatSetX
set_option linter.all false
namespace Go.Proofs.YtdnindaohpdblaaGreat
open Go.RowKit Nt
set_option maxRecDepth 20000
set_option maxHeartbeats 16000000
theorem enter1b (w:World)(s:Bool)(p:Option Addr)(n c:Nat):
  ∃ W g,w.heap.size=g/\w.alloc (.cells #[.bool s,.slice p n c] 24)=W ∧
   W.cell? ⟨g,0,none⟩=some (.bool s)/\W.cell? ⟨g,1,none⟩=some (.slice p n c)/\Hid (Below w.heap.size w W):=by
 have B1:=yam w (.cells #[.bool s,.slice p n c] 24)
 have X1:=ybw w s p n c
 exact ⟨_,_,rfl,rfl,X1.at0,X1.at1,B1⟩
theorem yn2 (v:Nat):Go.bitLen v=0 ↔ v=0:=by
 constructor
 ·intro h
  obtain ⟨s1,s2⟩:=bitLen_spec v
  apply Classical.byContradiction
  intro h0
  have:=s2 h0
  rw [h] at s1
  simp at s1
  omega
 ·intro h; subst h; rfl
theorem sign_zero (s:Bool){m:Nat}(h:m=0):(sg s m).sign=0:=by subst h; cases s <;> rfl
theorem ye4 {m:Nat}(h:m≠0):(sg false m).sign=1:=by
 unfold sg
 simp
 omega
theorem sign_neg {m:Nat}(h:m≠0):(sg true m).sign=-1:=by
 unfold sg
 simp
 omega
theorem ygj (w:World)(s:Bool)(p:Option Addr)(n c:Nat)(xs:List Nat)(h:Sl w p n c xs)(hs:n<=70368744177664):
  Calls Tryz.prog 43 #[.agg #[.bool s,.slice p n c]] w fun e w'=>e=.returned (.int .i64 (sg s (val xs)).sign)/\Below w.heap.size w w':=by
 obtain ⟨W,g,hg,hW,c10,c11,HB⟩:=enter1b w s p n c
 have B:=yr2 W p n c xs (h.below HB.out) (by omega)
 have hz:=yn2 (val xs)
 obtain ⟨bl,hbl⟩:∃ bl,Go.bitLen (val xs)=bl:=⟨_,rfl⟩
 rw [hbl] at B hz
 have HN:=hid B
 clear h B hbl
 by_cases h0:bl=0
 ·rw [sign_zero s (hz.1 h0)]
  subst h0
  clear hz
  go_enter Tryz.func43,Tryz.ntmps43
  go_wp2_with fail
  refine HN.out.mono ?_
  rintro e w' ⟨rfl,rfl⟩
  go_wp2
  go_ret
  exact ⟨rfl,HB.out⟩
 ·have h1:val xs≠0:=fun e=>h0 (hz.2 e)
  cases s with
  | false =>
   rw [ye4 h1]
   clear hz h1
   go_enter Tryz.func43,Tryz.ntmps43
   go_wp2_with fail
   refine HN.out.mono ?_
   rintro e w' ⟨rfl,rfl⟩
   go_wp2
   go_ret
   exact ⟨rfl,HB.out⟩
  | true =>
   rw [sign_neg h1]
   clear hz h1
   go_enter Tryz.func43,Tryz.ntmps43
   go_wp2_with fail
   refine HN.out.mono ?_
   rintro e w' ⟨rfl,rfl⟩
   go_wp2
   go_ret
   exact ⟨rfl,HB.out⟩
theorem yiu (w:World)(s:Bool)(p:Option Addr)(n c:Nat)(xs:List Nat)(h:Sl w p n c xs)(hs:n<=35184372088832):
  Calls Tryz.prog 29 #[.agg #[.bool s,.slice p n c]] w fun e w'=>e=.returned (.int .i64 (sg s (val xs)).sign)/\Below w.heap.size w w':=by
 obtain ⟨W,g,hg,hW,c10,c11,HB⟩:=enter1b w s p n c
 have B:=yd1 W p n c xs (h.below HB.out) hs
 have hz:=ya2 (val xs)
 have hdl:=h.dl
 obtain ⟨L,hL⟩:∃ L,(digs (val xs)).length=L:=⟨_,rfl⟩
 rw [hL] at B hz hdl
 have HN:=hid B
 clear h B hL
 by_cases h0:L=0
 ·rw [sign_zero s (hz.1 h0)]
  subst h0
  clear hz
  go_enter Tryz.func29,Tryz.ntmps29
  go_wp2_with fail
  refine HN.out.mono ?_
  rintro e w' ⟨r,cr,rfl,A⟩
  have HF:=hid (HB.out.trans (A.below.mono HB.out.size))
  clear A
  go_wp2
  go_ret
  exact ⟨rfl,HF.out⟩
 ·have h1:val xs≠0:=fun e=>h0 (hz.2 e)
  cases s with
  | false =>
   rw [ye4 h1]
   clear hz h1
   go_enter Tryz.func29,Tryz.ntmps29
   go_wp2_with fail
   refine HN.out.mono ?_
   rintro e w' ⟨r,cr,rfl,A⟩
   have HF:=hid (HB.out.trans (A.below.mono HB.out.size))
   replace c10:=yac c10 A.below
   clear A
   go_wp2
   go_ret
   exact ⟨rfl,HF.out⟩
  | true =>
   rw [sign_neg h1]
   clear hz h1
   go_enter Tryz.func29,Tryz.ntmps29
   go_wp2_with fail
   refine HN.out.mono ?_
   rintro e w' ⟨r,cr,rfl,A⟩
   have HF:=hid (HB.out.trans (A.below.mono HB.out.size))
   replace c10:=yac c10 A.below
   clear A
   go_wp2
   go_ret
   exact ⟨rfl,HF.out⟩
theorem zbl {k x y:Nat}(s t:Bool)(hx:(digs x).length<=k)(hy:(digs y).length<=k):(digs (sg s x-sg t y).natAbs).length<=k+1:=by
 refine zhb (yag ?_) (yc3 hx hy)
 have e1:=sg_abs s x
 have e2:=sg_abs t y
 omega
theorem zbv (w:World)(s t:Bool)(p q:Option Addr)(n c m d:Nat)(xs ys:List Nat)(h:Sl w p n c xs)(h':Sl w q m d ys)(hs:n<=35184372088831)(hs':m<=35184372088831):
  Calls Tryz.prog 25 #[.agg #[.bool s,.slice p n c],.agg #[.bool t,.slice q m d]] w fun e w'=>e=.returned (.int .i64 (sg s (val xs)-sg t (val ys)).sign)/\Below w.heap.size w w':=by
 have B1:=yam w (.cells #[.bool s,.slice p n c] 24)
 have B2:=yam (w.alloc (.cells #[.bool s,.slice p n c] 24)) (.cells #[.bool t,.slice q m d] 24)
 have B:=B1.trans (B2.mono B1.size)
 have D:=zbw _ s t p q n c m d xs ys (h.below B) (h'.below B) hs hs'
 have hb:=zbl s t (zhb h.dl hs) (zhb h'.dl hs')
 obtain ⟨z,hz⟩:∃ z,sg s (val xs)-sg t (val ys)=z:=⟨_,rfl⟩
 rw [hz] at D hb ⊢
 have ez:sg (ng z) (val (digs z.natAbs))=z:=by rw [yaf,yh1]
 obtain ⟨bz,hbz⟩:∃ b,ng z=b:=⟨_,rfl⟩
 obtain ⟨Lz,hLz⟩:∃ L,(digs z.natAbs).length=L:=⟨_,rfl⟩
 rw [hbz,hLz] at D
 rw [hbz] at ez
 rw [hLz] at hb
 have HD:=hid D
 have HB:=hid B
 have HE:=hid ez
 have HLL:=hid hLz
 clear D B B1 B2 h h' hz ez hbz hLz
 go_enter Tryz.func25,Tryz.ntmps25
 go_wp2_with fail
 refine HD.out.mono ?_
 rintro e w1 ⟨r,cr,rfl,Z⟩
 have HS:=hid (yiu w1 bz r Lz cr (digs z.natAbs) (by have:=Z.sl; rwa [HLL.out] at this) hb)
 rw [HE.out] at HS
 have HF:=hid (HB.out.trans (Z.below.mono HB.out.size))
 clear Z
 go_wp2_with fail
 refine HS.out.mono ?_
 rintro e w2 ⟨rfl,B2⟩
 have HG:=hid (HF.out.trans (B2.mono HF.out.size))
 go_wp2
 go_ret
 exact ⟨rfl,HG.out⟩
theorem yv3 (a b:Int)(w:World)(h:a < b):Calls Tryz.prog 99 #[.int .i64 a,.int .i64 b] w fun e w'=>e=.returned (.int .i64 (-1))/\w'=w:=by
 go_enter Tryz.func99,Tryz.ntmps99
 go_wp2
 go_ret
 exact ⟨rfl,rfl⟩
theorem yv4 (a b:Int)(w:World)(h:b < a):Calls Tryz.prog 99 #[.int .i64 a,.int .i64 b] w fun e w'=>e=.returned (.int .i64 1)/\w'=w:=by
 have h':¬ a < b:=by omega
 go_enter Tryz.func99,Tryz.ntmps99
 go_wp2
 go_ret
 exact ⟨rfl,rfl⟩
theorem ysa (x y:Nat):cmpN x y=((x:Int)-(y:Int)).sign:=by
 unfold cmpN
 split
 ·rw [zii (by omega)]
 ·split
  ·rw [show (x:Int)-y=0 by omega]; rfl
  ·rw [zh7 (by omega)]
theorem yqv (x y:Nat):cmpN x y=-1\/cmpN x y=0\/cmpN x y=1:=by
 unfold cmpN
 split
 ·exact Or.inl rfl
 ·split
  ·exact Or.inr (Or.inl rfl)
  ·exact Or.inr (Or.inr rfl)
theorem yno {a b:Int}(h:a.sign < b.sign):(a-b).sign=-1:=by
 apply zii
 rcases zk4 a 0 with h1 | h1 | h1 <;> rcases zk4 b 0 with h2 | h2 | h2 <;>
  first
  | omega
  | (simp only [zii,zh7,h1,h2,Int.sign_zero] at h; omega)
theorem yuy {a b:Int}(h:b.sign < a.sign):(a-b).sign=1:=by
 have:=yno h
 have e:a-b=- (b-a):=by omega
 rw [e,Int.sign_neg,this]
 rfl
theorem ynp (s t:Bool)(x y:Nat)(h:(sg s x).sign=(sg t y).sign):(sg s x).sign*cmpN x y=(sg s x-sg t y).sign:=by
 rw [ysa,← zk6]
 by_cases hx:x=0
 ·have h0:(sg s x).sign=0:=sign_zero s hx
  rw [h0] at h
  have hy:sg t y=0:=zkb.1 h.symm
  have hx0:sg s x=0:=zkb.1 h0
  rw [hx0,hy]
  simp
 ·by_cases hy:y=0
  ·have h0:(sg t y).sign=0:=sign_zero t hy
   rw [h0] at h
   have hx0:sg s x=0:=zkb.1 h
   have:=sg_abs s x
   rw [hx0] at this
   exact absurd this.symm (by simpa using hx)
  ·cases s <;> cases t
   ·unfold sg
    simp only [zj5,if_false]
    rw [zk6,zh7 (by omega:(0:Int) < x),Int.one_mul]
   ·rw [ye4 hx,sign_neg hy] at h; omega
   ·rw [sign_neg hx,ye4 hy] at h; omega
   ·unfold sg
    simp only [if_true]
    rw [zk6,zii (by omega:-(x:Int) < 0),show -(x:Int) - -(y:Int)=-((x:Int)-y) by omega,Int.sign_neg]
    omega
theorem keep4b {w w1 w2:World}{a1 a2 a3 a4:Addr}{v1 v2 v3 v4:Value}
  (h:w1.cell? a1=some v1/\w1.cell? a2=some v2/\w1.cell? a3=some v3/\w1.cell? a4=some v4/\Hid (Below w.heap.size w w1)) (hb:Below w1.heap.size w1 w2):
  w2.cell? a1=some v1/\w2.cell? a2=some v2/\w2.cell? a3=some v3/\w2.cell? a4=some v4/\Hid (Below w.heap.size w w2):=
 ⟨yac h.1 hb,yac h.2.1 hb,yac h.2.2.1 hb,yac h.2.2.2.1 hb,Below.trans h.2.2.2.2 (hb.mono (Below.size h.2.2.2.2))⟩
theorem bel4b {A B C D:Prop}{w w':World}(h:A/\B/\C/\D/\Hid (Below w.heap.size w w')):Below w.heap.size w w':=h.2.2.2.2
theorem enter2c (w:World)(s:Bool)(p:Option Addr)(n c:Nat)(t:Bool)(q:Option Addr)(m d:Nat):
  ∃ W g,w.heap.size=g/\(w.alloc (.cells #[.bool s,.slice p n c] 24)).alloc (.cells #[.bool t,.slice q m d] 24)=W ∧
   W.cell? ⟨g,0,none⟩=some (.bool s)/\W.cell? ⟨g,1,none⟩=some (.slice p n c)/\W.cell? ⟨g+1,0,none⟩=some (.bool t)/\W.cell? ⟨g+1,1,none⟩=some (.slice q m d)/\Hid (Below w.heap.size w W):=by
 have B1:=yam w (.cells #[.bool s,.slice p n c] 24)
 have B2:=yam (w.alloc (.cells #[.bool s,.slice p n c] 24)) (.cells #[.bool t,.slice q m d] 24)
 have X1:=(ybw w s p n c).below B2
 have X2:=ybw (w.alloc (.cells #[.bool s,.slice p n c] 24)) t q m d
 rw [show (w.alloc (.cells #[.bool s,.slice p n c] 24)).heap.size=w.heap.size+1 from by simp] at X2
 exact ⟨_,_,rfl,rfl,X1.at0,X1.at1,X2.at0,X2.at1,B1.trans (B2.mono B1.size)⟩
theorem ykt (z:Int):-1<=z.sign/\z.sign<=1:=by
 rcases zk4 z 0 with h | h | h
 ·rw [zii h]; omega
 ·subst h; simp
 ·rw [zh7 h]; omega
theorem ykz (w:World)(s t:Bool)(p q:Option Addr)(n c m d:Nat)(xs ys:List Nat)(h:Sl w p n c xs)(h':Sl w q m d ys)(hs:n<=70368744177664)(hs':m<=70368744177664):
  Calls Tryz.prog 76 #[.agg #[.bool s,.slice p n c],.agg #[.bool t,.slice q m d]] w fun e w'=>e=.returned (.int .i64 (sg s (val xs)-sg t (val ys)).sign)/\Below w.heap.size w w':=by
 obtain ⟨W,g,hg,hW,c10,c11,c20,c21,HB⟩:=enter2c w s p n c t q m d
 have SX:Hid (∀ W',Below w.heap.size w W'->Calls Tryz.prog 43 #[.agg #[.bool s,.slice p n c]] W' fun e w'=>e=.returned (.int .i64 (sg s (val xs)).sign)/\Below W'.heap.size W' w'):=fun W' hb=>ygj W' s p n c xs (h.below hb) hs
 have SY:Hid (∀ W',Below w.heap.size w W'->Calls Tryz.prog 43 #[.agg #[.bool t,.slice q m d]] W' fun e w'=>e=.returned (.int .i64 (sg t (val ys)).sign)/\Below W'.heap.size W' w'):=fun W' hb=>ygj W' t q m d ys (h'.below hb) hs'
 have CM:Hid (∀ W',Below w.heap.size w W'->Calls Tryz.prog 100 #[.slice p n c,.slice q m d] W' fun e w'=>e=.returned (.int .i64 (cmpN (val xs) (val ys)))/\Below W'.heap.size W' w'):=fun W' hb=>(yqw W' p q n c m d xs ys (h.below hb) (h'.below hb)).mono (fun e w' ⟨h1,nq,h2⟩=>⟨h1,by rw [h2]; exact ybq (Below.refl _ _) nq⟩)
 have FL:Hid ((sg s (val xs)).sign < (sg t (val ys)).sign->(sg s (val xs)-sg t (val ys)).sign=-1):=yno
 have FM:Hid ((sg t (val ys)).sign < (sg s (val xs)).sign->(sg s (val xs)-sg t (val ys)).sign=1):=yuy
 have FE:Hid ((sg s (val xs)).sign=(sg t (val ys)).sign->(sg s (val xs)).sign*cmpN (val xs) (val ys)=(sg s (val xs)-sg t (val ys)).sign):=ynp s t _ _
 have r1:=ykt (sg s (val xs))
 have r2:=ykt (sg t (val ys))
 have r3:=yqv (val xs) (val ys)
 obtain ⟨a,ha⟩:∃ a,(sg s (val xs)).sign=a:=⟨_,rfl⟩
 obtain ⟨b,hb⟩:∃ b,(sg t (val ys)).sign=b:=⟨_,rfl⟩
 obtain ⟨k,hk⟩:∃ k,cmpN (val xs) (val ys)=k:=⟨_,rfl⟩
 obtain ⟨z,hz⟩:∃ z,(sg s (val xs)-sg t (val ys)).sign=z:=⟨_,rfl⟩
 rw [ha] at SX FL FM FE r1
 rw [hb] at SY FL FM FE r2
 rw [hk] at CM FE r3
 rw [hz] at FL FM FE
 rw [hz]
 clear h h' ha hb hk hz
 have tail:∀ v,z=v->Calls Tryz.prog 76 #[.agg #[.bool s,.slice p n c],.agg #[.bool t,.slice q m d]] w fun e w'=>e=.returned (.int .i64 v)/\Below w.heap.size w w':=by
  intro v hv
  rcases zk4 a b with hab | hab | hab
  ·obtain rfl:v=-1:=by rw [← hv]; exact FL.out hab
   have hne:a≠b:=by omega
   clear FL FM FE r3
   go_enter Tryz.func76,Tryz.ntmps76
   go_wp2
   go_region_held3 (fun w'=>w'.cell? ⟨g,0,none⟩=some (.bool s)/\w'.cell? ⟨g,1,none⟩=some (.slice p n c)/\w'.cell? ⟨g+1,0,none⟩=some (.bool t)/\w'.cell? ⟨g+1,1,none⟩=some (.slice q m d)/\Hid (Below w.heap.size w w'))
    (first | (with_reducible exact keep4b (by assumption) hBz) | (exact ⟨c10,c11,c20,c21,HB.out.drew⟩) | fail)
    (first | (go_at_call_of 43 (Value.slice p n c); refine (SX.out _ (bel4b (by assumption))).mono ?_; rintro e w1 ⟨rfl,hBz⟩)
           | (go_at_call_of 43 (Value.slice q m d); refine (SY.out _ (bel4b (by assumption))).mono ?_; rintro e w2 ⟨rfl,hBz⟩; have HS:=hid (keep4b (w:=w) (by assumption) hBz)))
   have HF:Hid (Below w.heap.size w w2):=bel4b HS.out
   have CL:=hid (yv3 a b w2 hab)
   go_wp2_with (go_at_call 99; refine CL.out.mono ?_; rintro e w3 ⟨rfl,rfl⟩)
   go_ret
   exact ⟨rfl,HF.out⟩
  ·subst hab
   obtain rfl:v=a*k:=by rw [← hv]; exact (FE.out rfl).symm
   clear FL FM FE
   go_enter Tryz.func76,Tryz.ntmps76
   go_wp2
   go_region_held3 (fun w'=>w'.cell? ⟨g,0,none⟩=some (.bool s)/\w'.cell? ⟨g,1,none⟩=some (.slice p n c)/\w'.cell? ⟨g+1,0,none⟩=some (.bool t)/\w'.cell? ⟨g+1,1,none⟩=some (.slice q m d)/\Hid (Below w.heap.size w w'))
    (first | (with_reducible exact keep4b (by assumption) hBz) | (exact ⟨c10,c11,c20,c21,HB.out.drew⟩) | fail)
    (first | (go_at_call_of 43 (Value.slice p n c); refine (SX.out _ (bel4b (by assumption))).mono ?_; rintro e w1 ⟨rfl,hBz⟩)
           | (go_at_call_of 43 (Value.slice q m d); refine (SY.out _ (bel4b (by assumption))).mono ?_; rintro e w2 ⟨rfl,hBz⟩; have HS:=hid (keep4b (w:=w) (by assumption) hBz)))
   obtain ⟨e10,e11,e20,e21,HF⟩:=HS.out
   have CMz:=hid (CM.out w2 HF.out)
   have hr1:-1<=a*k:=by
    rcases r3 with r | r | r <;> subst r <;> omega
   have hr2:a*k<=1:=by
    rcases r3 with r | r | r <;> subst r <;> omega
   clear c10 c11 c20 c21
   go_wp2_with (go_at_call 100; refine CMz.out.mono ?_; rintro e w3 ⟨rfl,hB3⟩)
   go_ret
   exact ⟨rfl,HF.out.trans (hB3.mono HF.out.size)⟩
  ·obtain rfl:v=1:=by rw [← hv]; exact FM.out hab
   have hne:a≠b:=by omega
   clear FL FM FE r3
   go_enter Tryz.func76,Tryz.ntmps76
   go_wp2
   go_region_held3 (fun w'=>w'.cell? ⟨g,0,none⟩=some (.bool s)/\w'.cell? ⟨g,1,none⟩=some (.slice p n c)/\w'.cell? ⟨g+1,0,none⟩=some (.bool t)/\w'.cell? ⟨g+1,1,none⟩=some (.slice q m d)/\Hid (Below w.heap.size w w'))
    (first | (with_reducible exact keep4b (by assumption) hBz) | (exact ⟨c10,c11,c20,c21,HB.out.drew⟩) | fail)
    (first | (go_at_call_of 43 (Value.slice p n c); refine (SX.out _ (bel4b (by assumption))).mono ?_; rintro e w1 ⟨rfl,hBz⟩)
           | (go_at_call_of 43 (Value.slice q m d); refine (SY.out _ (bel4b (by assumption))).mono ?_; rintro e w2 ⟨rfl,hBz⟩; have HS:=hid (keep4b (w:=w) (by assumption) hBz)))
   have HF:Hid (Below w.heap.size w w2):=bel4b HS.out
   have CL:=hid (yv4 a b w2 hab)
   go_wp2_with (go_at_call 99; refine CL.out.mono ?_; rintro e w3 ⟨rfl,rfl⟩)
   go_ret
   exact ⟨rfl,HF.out⟩
 exact tail z rfl
theorem yvd (m:Nat)(h:m < 18446744073709551616):val [m % 4294967296,m / 4294967296]=m:=by
 simp only [val]
 omega
theorem zdx (m:Nat)(h:m < 18446744073709551616):Ok [m % 4294967296,m / 4294967296]:=Ok.cons (zic _ (by omega)) (Ok.cons (by omega) Ok.nil)
theorem yy1 (w:World)(m:Nat)(h:m < 18446744073709551616):
  Sl (w.alloc (.cells #[.int .u32 ((m % 4294967296:Nat):Int),.int .u32 ((m / 4294967296:Nat):Int)] 64)) (some ⟨w.heap.size,0,none⟩) 2 2 [m % 4294967296,m / 4294967296]:=
 ⟨rfl,zha _,by unfold maxLen; omega,(fun e=>by cases e),zdx m h,Blk.limbs (show Blk _ _ [m % 4294967296,m / 4294967296] from heap_alloc_last _ _)⟩
theorem ypo (m:Nat)(h0:0 < m)(h:m<=9223372036854775808):IntKind.u64.wrap (-IntKind.u64.wrap (-(m:Int)))=(m:Int):=by
 have e1:IntKind.u64.wrap (-(m:Int))=18446744073709551616-(m:Int):=by
  rw [IntKind.wrap_u64]
  omega
 rw [e1,IntKind.wrap_u64]
 omega
theorem zfg (w:World)(x:Int)(h1:-9223372036854775808<=x)(h2:x < 9223372036854775808):
  Calls Tryz.prog 56 #[.int .i64 x] w fun e w'=>∃ r cr,e=.returned (.agg #[.bool (ng x),.slice r (digs x.natAbs).length cr])/\Za w w' r cr x:=by
 obtain ⟨W,g,hg,hW,c00,c01,HI⟩:=enter0 w
 obtain ⟨m,hm⟩:∃ m,x.natAbs=m:=⟨_,rfl⟩
 have hmb:m<=9223372036854775808:=by omega
 have SL:=yy1 W m (by omega)
 have hv:=yvd m (by omega)
 obtain ⟨lo,hlo⟩:∃ lo,m % 4294967296=lo:=⟨_,rfl⟩
 obtain ⟨hi,hhi⟩:∃ hi,m / 4294967296=hi:=⟨_,rfl⟩
 rw [hlo,hhi] at SL hv
 have e1:(m:Int) % 4294967296=(lo:Int):=by omega
 have e2:(m:Int) / 4294967296=(hi:Int):=by omega
 have hhb:hi < 4294967296:=by omega
 have B1:=yam W (.cells #[.int .u32 (lo:Int),.int .u32 (hi:Int)] 64)
 have FX:=fun (s:Bool)=>yox _ s _ 2 2 [lo,hi] SL (by omega)
 rw [hv] at FX
 have tail:∀ (s:Bool),sg s m=x->Hid (Calls Tryz.prog 84 #[.agg #[.bool s,.slice (some ⟨W.heap.size,0,none⟩) 2 2]] (W.alloc (.cells #[.int .u32 (lo:Int),.int .u32 (hi:Int)] 64)) fun e w'=>∃ r cr,e=.returned (.agg #[.bool (ng x),.slice r (digs x.natAbs).length cr])/\Za (W.alloc (.cells #[.int .u32 (lo:Int),.int .u32 (hi:Int)] 64)) w' r cr x):=by
  intro s e
  have:=FX s
  rw [e] at this
  exact this
 obtain ⟨W1,hW1⟩:∃ W1,W.alloc (.cells #[.int .u32 (lo:Int),.int .u32 (hi:Int)] 64)=W1:=⟨_,rfl⟩
 rw [hW1] at tail B1
 obtain ⟨b,hb⟩:∃ b,ng x=b:=⟨_,rfl⟩
 obtain ⟨L,hL⟩:∃ L,(digs x.natAbs).length=L:=⟨_,rfl⟩
 rw [hb,hL] at tail ⊢
 have HB1:=hid B1
 clear SL FX hv B1 hb hL hlo hhi
 by_cases h0:x < 0
 ·have T:=tail true (by unfold sg; simp; omega)
  clear tail
  obtain rfl:x=-(m:Int):=by omega
  have ew:=ypo m (by omega) hmb
  go_enter Tryz.func56,Tryz.ntmps56
  go_wp2_with fail
  refine T.out.mono ?_
  rintro e w1 ⟨r,cr,rfl,A⟩
  have hI2:=hid (HI.out.call ((HB1.out.trans (A.below.mono HB1.out.size))))
  have hAs:=hid A.sl
  have hAf:=hid A.fresh
  have hs1:=HB1.out.size
  clear A
  obtain ⟨b3,r3,n3,c3,hx3⟩:=hI2.out.box
  have k0:=hx3.at0
  have k1:=hx3.at1
  have k2:=hx3.frozen 0
  have k3:=hx3.frozen 1
  go_wp2
  have hc0:=(hx3.set b r L cr).at0
  have hc1:=(hx3.set b r L cr).at1
  refine bodyPost_ret (by simp [results,Tryz.results56,go_sem,hc0,hc1]; try rfl) rfl ?_
  exact ⟨r,cr,rfl,hI2.out.fin (w1:=w) hAs.out (fun b o e=>zhe HI.out.lt (zhb hs1 (hAf.out b o e))) _ _⟩
 ·have T:=tail false (by unfold sg; simp; omega)
  clear tail
  obtain rfl:x=(m:Int):=by omega
  go_enter Tryz.func56,Tryz.ntmps56
  go_wp2_with fail
  refine T.out.mono ?_
  rintro e w1 ⟨r,cr,rfl,A⟩
  have hI2:=hid (HI.out.call ((HB1.out.trans (A.below.mono HB1.out.size))))
  have hAs:=hid A.sl
  have hAf:=hid A.fresh
  have hs1:=HB1.out.size
  clear A
  obtain ⟨b3,r3,n3,c3,hx3⟩:=hI2.out.box
  have k0:=hx3.at0
  have k1:=hx3.at1
  have k2:=hx3.frozen 0
  have k3:=hx3.frozen 1
  go_wp2
  have hc0:=(hx3.set b r L cr).at0
  have hc1:=(hx3.set b r L cr).at1
  refine bodyPost_ret (by simp [results,Tryz.results56,go_sem,hc0,hc1]; try rfl) rfl ?_
  exact ⟨r,cr,rfl,hI2.out.fin (w1:=w) hAs.out (fun b o e=>zhe HI.out.lt (zhb hs1 (hAf.out b o e))) _ _⟩
theorem yze (w:World)(x:Int)(h1:-9223372036854775808<=x)(h2:x < 9223372036854775808):
  Calls Tryz.prog 34 #[.int .i64 x] w fun e w'=>∃ r cr,e=.returned (.agg #[.bool (ng x),.slice r (digs x.natAbs).length cr])/\Za w w' r cr x:=by
 obtain ⟨W,g,hg,hW,c00,c01,HI⟩:=enter0 w
 obtain ⟨m,hm⟩:∃ m,x.natAbs=m:=⟨_,rfl⟩
 have hmb:m<=9223372036854775808:=by omega
 have SL:=yy1 W m (by omega)
 have hv:=yvd m (by omega)
 obtain ⟨lo,hlo⟩:∃ lo,m % 4294967296=lo:=⟨_,rfl⟩
 obtain ⟨hi,hhi⟩:∃ hi,m / 4294967296=hi:=⟨_,rfl⟩
 rw [hlo,hhi] at SL hv
 have e1:(m:Int) % 4294967296=(lo:Int):=by omega
 have e2:(m:Int) / 4294967296=(hi:Int):=by omega
 have hhb:hi < 4294967296:=by omega
 have B1:=yam W (.cells #[.int .u32 (lo:Int),.int .u32 (hi:Int)] 64)
 have FX:=fun (s:Bool)=>yi8 _ s _ 2 2 [lo,hi] SL (by omega)
 rw [hv] at FX
 have tail:∀ (s:Bool),sg s m=x->Hid (Calls Tryz.prog 65 #[.bool s,.slice (some ⟨W.heap.size,0,none⟩) 2 2] (W.alloc (.cells #[.int .u32 (lo:Int),.int .u32 (hi:Int)] 64)) fun e w'=>∃ r cr,e=.returned (.agg #[.bool (ng x),.slice r (digs x.natAbs).length cr])/\Za (W.alloc (.cells #[.int .u32 (lo:Int),.int .u32 (hi:Int)] 64)) w' r cr x):=by
  intro s e
  have:=FX s
  rw [e] at this
  exact this
 obtain ⟨W1,hW1⟩:∃ W1,W.alloc (.cells #[.int .u32 (lo:Int),.int .u32 (hi:Int)] 64)=W1:=⟨_,rfl⟩
 rw [hW1] at tail B1
 obtain ⟨b,hb⟩:∃ b,ng x=b:=⟨_,rfl⟩
 obtain ⟨L,hL⟩:∃ L,(digs x.natAbs).length=L:=⟨_,rfl⟩
 rw [hb,hL] at tail ⊢
 have HB1:=hid B1
 clear SL FX hv B1 hb hL hlo hhi
 by_cases h0:x < 0
 ·have T:=tail true (by unfold sg; simp; omega)
  clear tail
  obtain rfl:x=-(m:Int):=by omega
  have ew:=ypo m (by omega) hmb
  go_enter Tryz.func34,Tryz.ntmps34
  go_wp2_with fail
  refine T.out.mono ?_
  rintro e w1 ⟨r,cr,rfl,A⟩
  have hI2:=hid (HI.out.call ((HB1.out.trans (A.below.mono HB1.out.size))))
  have hAs:=hid A.sl
  have hAf:=hid A.fresh
  have hs1:=HB1.out.size
  clear A
  obtain ⟨b3,r3,n3,c3,hx3⟩:=hI2.out.box
  have k0:=hx3.at0
  have k1:=hx3.at1
  have k2:=hx3.frozen 0
  have k3:=hx3.frozen 1
  go_wp2
  have hc0:=(hx3.set b r L cr).at0
  have hc1:=(hx3.set b r L cr).at1
  refine bodyPost_ret (by simp [results,Tryz.results34,go_sem,hc0,hc1]; try rfl) rfl ?_
  exact ⟨r,cr,rfl,hI2.out.fin (w1:=w) hAs.out (fun b o e=>zhe HI.out.lt (zhb hs1 (hAf.out b o e))) _ _⟩
 ·have T:=tail false (by unfold sg; simp; omega)
  clear tail
  obtain rfl:x=(m:Int):=by omega
  go_enter Tryz.func34,Tryz.ntmps34
  go_wp2_with fail
  refine T.out.mono ?_
  rintro e w1 ⟨r,cr,rfl,A⟩
  have hI2:=hid (HI.out.call ((HB1.out.trans (A.below.mono HB1.out.size))))
  have hAs:=hid A.sl
  have hAf:=hid A.fresh
  have hs1:=HB1.out.size
  clear A
  obtain ⟨b3,r3,n3,c3,hx3⟩:=hI2.out.box
  have k0:=hx3.at0
  have k1:=hx3.at1
  have k2:=hx3.frozen 0
  have k3:=hx3.frozen 1
  go_wp2
  have hc0:=(hx3.set b r L cr).at0
  have hc1:=(hx3.set b r L cr).at1
  refine bodyPost_ret (by simp [results,Tryz.results34,go_sem,hc0,hc1]; try rfl) rfl ?_
  exact ⟨r,cr,rfl,hI2.out.fin (w1:=w) hAs.out (fun b o e=>zhe HI.out.lt (zhb hs1 (hAf.out b o e))) _ _⟩
end Go.Proofs.YtdnindaohpdblaaGreat
