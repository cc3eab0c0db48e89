import Derived.Test.YtdnindaohpdblaaGreatSetM
import Derived.Laws.AppendOwnNone
set_option linter.all false
namespace Go.Proofs.YtdnindaohpdblaaGreat
open Go.RowKit Nt
set_option maxRecDepth 20000
set_option maxHeartbeats 16000000
theorem yn3 (v:Nat):(Go.bitLen v+31) / 32=(digs v).length:=by
 by_cases h0:v=0
 ·subst h0; rfl
 obtain ⟨s1,s2⟩:=bitLen_spec v
 have s3:=s2 h0
 obtain ⟨L,hL⟩:∃ L,(digs v).length=L:=⟨_,rfl⟩
 have h1:=ycn v
 have h2:=yjg h0
 rw [hL] at h1 h2 ⊢
 have hL0:L≠0:=by intro e; rw [e] at hL; exact h0 ((ya2 v).1 hL)
 have e1:(4294967296:Nat) ^ L=2 ^ (32*L):=by rw [zjl]
 have e2:(4294967296:Nat) ^ (L-1)=2 ^ (32*(L-1)):=by rw [zjl]
 rw [e1] at h1
 rw [e2] at h2
 have u1:Go.bitLen v<=32*L:=by
  apply Classical.byContradiction
  intro hc
  have:2 ^ (32*L)<=2 ^ (Go.bitLen v-1):=zhp (by omega) (by omega)
  omega
 have u2:32*(L-1) < Go.bitLen v:=by
  apply Classical.byContradiction
  intro hc
  have:2 ^ Go.bitLen v<=2 ^ (32*(L-1)):=zhp (by omega) (by omega)
  omega
 omega
theorem yvm (w:World)(p:Option Addr)(n c:Nat)(xs:List Nat)(h:Sl w p n c xs)(hs:n<=70368744177664):
  Calls Tryz.prog 109 #[.slice p n c] w fun e w'=>e=.returned (.int .i64 ((digs (val xs)).length:Nat))/\w'=w:=by
 have B:=yr2 w p n c xs h (by omega)
 have e:=yn3 (val xs)
 have hdl:=h.dl
 obtain ⟨bl,hbl⟩:∃ bl,Go.bitLen (val xs)=bl:=⟨_,rfl⟩
 obtain ⟨L,hL⟩:∃ L,(digs (val xs)).length=L:=⟨_,rfl⟩
 rw [hbl] at B e
 rw [hL] at e hdl ⊢
 have HB:=hid B
 have hbb:bl<=2251799813685248:=by omega
 have HE:=hid e
 clear h B e hbl hL
 go_enter Tryz.func109,Tryz.ntmps109
 go_wp2_with fail
 refine HB.out.mono ?_
 rintro e w' ⟨rfl,rfl⟩
 go_wp2
 go_ret
 refine ⟨ydf ?_,rfl⟩
 have:=HE.out
 omega
theorem yqx (W:World)(ty:TypeId)(g n nd c:Nat)(p:Option Addr)(xs zs:List Nat)(hl:xs.length=n)(hz:zs.length=nd)(hn:nd<=n)(hx:Limbs W p xs)(hg:Blk W g zs)(hc:p=none->c=0):
  (Builtin.copy_ #[22,22] ty #[.slice (some ⟨g,0,none⟩) nd nd,.slice p n c]).run Tryz.prog W=.ok (goInt nd) (W.setRow g (U (xs.take nd)).toArray):=by
 obtain ⟨i0,hi,hz0,hz1,hz2⟩:=info_parts infoU32
 have hs:(Tryz.prog.info? 64).map (·.size)=some 1:=by rw [hi]; simp [hz1]
 cases p with
 | none =>
  have h0:n=0:=by
   apply Classical.byContradiction
   intro h
   obtain ⟨b,o,e,_⟩:=hx 0 (by omega)
   cases e
  subst h0
  have hnd:nd=0:=by omega
  subst hnd
  have hxs:xs=[]:=zib.1 hl
  have hzs:zs=[]:=zib.1 hz
  subst hxs
  subst hzs
  rw [hc rfl,run_copy_nil Tryz.prog W 22 22 ty 64 _ _ _ Tryz.underlying22 (by rw [hs]; rfl)]
  rw [List.take_nil,setRow_self W g _ _ _ hg]
  rfl
 | some a =>
  have hsrc:∀ j v,(U (xs.take nd))[j]? = some v->W.cell? (a.add j)=some v:=by
   intro j v hv
   have hj:j < (xs.take nd).length:=by
    have:=(zhh.1 hv).1
    simpa [U] using this
   rw [ynx (xs.take nd) j hj] at hv
   obtain ⟨b,o,e,hcc⟩:=hx.take nd j hj
   obtain rfl:=Option.some.inj e
   rw [← hv,← hcc]
   rw [yc5]
  have hlt:(xs.take nd).length=nd:=by simp; omega
  have h:=run_copy_row Tryz.prog W 22 22 ty 64 g 0 nd nd a n c (U zs).toArray 64 (U (xs.take nd)) Tryz.underlying22 hs hg (by simp only [ydw,hlt]; exact (Nat.min_eq_right hn).symm) hsrc (by simp only [ydw,hlt]; simp [U,hz]) (ygb _)
  rw [h]
  have e1:(U (xs.take nd)).length=nd:=by rw [ydw,hlt]
  have e3:(U zs).drop nd=[]:=by simp [U,hz]
  simp [e1,e3]
theorem yox (w:World)(s:Bool)(p:Option Addr)(n c:Nat)(xs:List Nat)(h:Sl w p n c xs)(hs:n<=70368744177664):
  Calls Tryz.prog 84 #[.agg #[.bool s,.slice p n c]] w fun e w'=>∃ r cr,e=.returned (.agg #[.bool (ng (sg s (val xs))),.slice r (digs (sg s (val xs)).natAbs).length cr])/\Za w w' r cr (sg s (val xs)):=by
 obtain ⟨W,g,hg,hW,c10,c11,c20,c21,HI⟩:=enter1 w s p n c
 have hdl:=h.dl
 have N:=yvm W p n c xs (h.below HI.out.below) hs
 obtain ⟨L,hL⟩:∃ L,(digs (val xs)).length=L:=⟨_,rfl⟩
 rw [hL] at N hdl
 have HN:=hid N
 have M:=ydk L (by omega) W
 obtain ⟨W1,hW1⟩:∃ W1,W.alloc (.cells (U (List.replicate L 0)).toArray 64)=W1:=⟨_,rfl⟩
 rw [hW1] at M
 obtain ⟨g1,hg1⟩:∃ g1,W.heap.size=g1:=⟨_,rfl⟩
 rw [hg1] at M
 have B1:Below W.heap.size W W1:=by rw [← hW1]; exact yam _ _
 have G1:Blk W1 g1 (List.replicate L 0):=by rw [← hW1,← hg1]; exact heap_alloc_last _ _
 have CP:=fun ty=>yqx W1 ty g1 n L c p xs (List.replicate L 0) h.len (by simp) hdl ((h.below HI.out.below).below B1).lie G1 h.nil
 have htk:xs.take L=digs (val xs):=by rw [← hL]; exact yem h.ok
 rw [htk] at CP
 obtain ⟨W2,hW2⟩:∃ W2,W1.setRow g1 (U (digs (val xs))).toArray=W2:=⟨_,rfl⟩
 have hwr:Wr W1 g1 (digs (val xs)) W2:=⟨0,hW2.symm⟩
 rw [hW2] at CP
 have hgg:g+1 < g1:=by rw [← hg1]; exact HI.out.lt
 have I1:=HI.out.call B1
 have HI2:Hid (Inv w W2 (g+1)):=by
  obtain ⟨b,r,n',c',hx⟩:=I1.box
  exact ⟨hwr.below I1.below (by have:=HI.out.fresh; omega),⟨b,r,n',c',(hwr.other (by omega)).trans hx⟩,I1.fresh⟩
 have d10:W1.cell? ⟨g,0,none⟩=some (.bool s):=yac c10 B1
 have d11:W1.cell? ⟨g,1,none⟩=some (.slice p n c):=yac c11 B1
 have e10:W2.cell? ⟨g,0,none⟩=some (.bool s):=by rw [← hW2,cell_setRow_other _ _ _ _ (by simp; omega)]; exact d10
 have e11:W2.cell? ⟨g,1,none⟩=some (.slice p n c):=by rw [← hW2,cell_setRow_other _ _ _ _ (by simp; omega)]; exact d11
 have HS2:Hid (Sl W2 (some ⟨g1,0,none⟩) L L (digs (val xs))):=⟨hL,zha _,by unfold maxLen; omega,(fun e=>by cases e),ybo _,(Wr.blk G1 hwr).limbs⟩
 have SG:=hid (ycx W2 s (some ⟨g1,0,none⟩) L L (by omega))
 rw [sg_abs,hL,← yqc s hL]
 have HLL:=hid hL
 clear h N hwr htk I1 B1 G1 hW1 hW2 hL hg1
 go_enter Tryz.func84,Tryz.ntmps84
 go_wp2_with fail
 refine HN.out.mono ?_
 rintro e w' ⟨rfl,rfl⟩
 go_wp2_with fail
 refine SG.out.mono ?_
 rintro e w3 ⟨rfl,hB3⟩
 have hI3:=hid (HI2.out.call hB3)
 obtain ⟨b3,r3,n3,c3,hx3⟩:=hI3.out.box
 have k0:=hx3.at0
 have k1:=hx3.at1
 have k2:=hx3.frozen 0
 have k3:=hx3.frozen 1
 go_wp2
 have hc0:=(hx3.set (s && decide (0 < L)) (some ⟨g1,0,none⟩) L L).at0
 have hc1:=(hx3.set (s && decide (0 < L)) (some ⟨g1,0,none⟩) L L).at1
 refine bodyPost_ret (by simp [results,Tryz.results84,go_sem,hc0,hc1]; try rfl) rfl ?_
 refine ⟨_,_,rfl,hI3.out.fin (w1:=w) ?_ (fun b o e=>?_) _ _⟩
 ·rw [sg_abs,HLL.out]
  exact HS2.out.below hB3
 ·simp only [Option.some.injEq,Addr.mk.injEq] at e
  omega
theorem zff (w:World)(s:Bool)(p:Option Addr)(n c:Nat)(xs:List Nat)(h:Sl w p n c xs)(hs:n<=70368744177664):
  Calls Tryz.prog 73 #[.agg #[.bool s,.slice p n c]] w fun e w'=>∃ r cr,e=.returned (.agg #[.bool (ng (- sg s (val xs))),.slice r (digs (- sg s (val xs)).natAbs).length cr])/\Za w w' r cr (- sg s (val xs)):=by
 obtain ⟨W,g,hg,hW,c10,c11,c20,c21,HI⟩:=enter1 w s p n c
 have N:=yox W (!s) p n c xs (h.below HI.out.below) hs
 obtain ⟨z,hz⟩:∃ z,- sg s (val xs)=z:=⟨_,rfl⟩
 rw [ynn] at N
 rw [hz] at N ⊢
 obtain ⟨L,hL⟩:∃ L,(digs z.natAbs).length=L:=⟨_,rfl⟩
 obtain ⟨bz,hbz⟩:∃ bz,ng z=bz:=⟨_,rfl⟩
 rw [hL,hbz] at N ⊢
 have HN:=hid N
 clear h N hz c20 c21
 go_enter Tryz.func73,Tryz.ntmps73
 go_wp2_with fail
 refine HN.out.mono ?_
 rintro e w1 ⟨r,cr,rfl,A⟩
 have hI2:=hid (HI.out.call A.below)
 obtain ⟨b3,r3,n3,c3,hx3⟩:=hI2.out.box
 have k0:=hx3.at0
 have k1:=hx3.at1
 have k2:=hx3.frozen 0
 have k3:=hx3.frozen 1
 go_wp2
 have hc0:=(hx3.set bz r L cr).at0
 have hc1:=(hx3.set bz r L cr).at1
 refine bodyPost_ret (by simp [results,Tryz.results73,go_sem,hc0,hc1]; try rfl) rfl ?_
 exact ⟨r,cr,rfl,hI2.out.fin (w1:=w) A.sl (fun b o e=>zhe HI.out.lt (A.fresh b o e)) _ _⟩

end Go.Proofs.YtdnindaohpdblaaGreat
