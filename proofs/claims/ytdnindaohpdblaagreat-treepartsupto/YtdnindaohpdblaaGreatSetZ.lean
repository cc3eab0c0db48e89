import Derived.Deep.RegionHeld3
import Derived.Handy
import Derived.Test.YtdnindaohpdblaaGreatSetD
set_option linter.all false
namespace Go.Proofs.YtdnindaohpdblaaGreat
open Go.RowKit Nt
set_option maxRecDepth 20000
set_option maxHeartbeats 16000000
theorem ycx (w:World)(neg:Bool)(p:Option Addr)(n c:Nat)(hn:n<=9223372036854775807):
  Calls Tryz.prog 85 #[.bool neg,.slice p n c] w fun e w'=>e=.returned (.agg #[.bool (neg && decide (0 < n)),.slice p n c])/\Below w.heap.size w w':=by
 cases neg with
 | false =>
  go_enter Tryz.func85,Tryz.ntmps85
  go_wp2
  go_returns
  exact ⟨by simp,(Below.refl _ _).alloc (zha _) _⟩
 | true =>
  by_cases h:0 < n
  ·go_enter Tryz.func85,Tryz.ntmps85
   go_wp2
   go_returns
   exact ⟨by simp [h],(Below.refl _ _).alloc (zha _) _⟩
  ·go_enter Tryz.func85,Tryz.ntmps85
   go_wp2
   go_returns
   exact ⟨by simp [h],(Below.refl _ _).alloc (zha _) _⟩
def Box (w:World)(g:Nat)(neg:Bool)(p:Option Addr)(n c:Nat):Prop:=w.heap[g]? = some (.cells #[.bool neg,.slice p n c] 24)
theorem Box.below {w w':World}{g n c:Nat}{neg:Bool}{p:Option Addr}(h:Box w g neg p n c)(hb:Below w.heap.size w w'):Box w' g neg p n c:=
 (hb.block g (zhf.1 h).1).trans h
theorem Box.at0 {w:World}{g n c:Nat}{neg:Bool}{p:Option Addr}(h:Box w g neg p n c):w.cell? ⟨g,0,none⟩=some (.bool neg):=by
 have h':w.heap[g]? = _:=h
 simp [World.cell?,h']
theorem Box.at1 {w:World}{g n c:Nat}{neg:Bool}{p:Option Addr}(h:Box w g neg p n c):w.cell? ⟨g,1,none⟩=some (.slice p n c):=by
 have h':w.heap[g]? = _:=h
 simp [World.cell?,h']
theorem ybw (w:World)(neg:Bool)(p:Option Addr)(n c:Nat):Box (w.alloc (.cells #[.bool neg,.slice p n c] 24)) w.heap.size neg p n c:=heap_alloc_last _ _
theorem yam (w:World)(o:Obj):Below w.heap.size w (w.alloc o):=(Below.refl _ _).alloc (zha _) _
theorem eq_c (w:World)(neg:Bool)(p q:Option Addr)(n c m d:Nat)(xs:List Nat)(h:Sl w p n c xs)(h':Sl w q m d xs):
  Calls Tryz.prog 8 #[.agg #[.bool neg,.slice p n c],.agg #[.bool neg,.slice q m d]] w fun e w'=>e=.returned (.bool true)/\Below w.heap.size w w':=by
 have hnm:n=m:=by rw [← h.len,← h'.len]
 subst hnm
 have hc:=h.cap
 have hm:=h.max
 unfold maxLen at hm
 have B1:=yam w (.cells #[.bool neg,.slice p n c] 24)
 have B2:=yam (w.alloc (.cells #[.bool neg,.slice p n c] 24)) (.cells #[.bool neg,.slice q n d] 24)
 have X1:=(ybw w neg p n c).below B2
 have X2:=ybw (w.alloc (.cells #[.bool neg,.slice p n c] 24)) neg q n d
 rw [show (w.alloc (.cells #[.bool neg,.slice p n c] 24)).heap.size=w.heap.size+1 from by simp] at X2
 have HX:=hid ((h.below B1).below B2)
 have HY:=hid ((h'.below B1).below B2)
 have HB:=hid (B1.trans (B2.mono B1.size))
 obtain ⟨W,hW⟩:∃ W,(w.alloc (.cells #[.bool neg,.slice p n c] 24)).alloc (.cells #[.bool neg,.slice q n d] 24)=W:=⟨_,rfl⟩
 rw [hW] at X1 X2 HX HY HB
 have X10:=X1.at1
 have X20:=X2.at1
 have X11:=X1.at0
 have X21:=X2.at0
 obtain ⟨g,hg⟩:∃ g,w.heap.size=g:=⟨_,rfl⟩
 rw [hg] at X10 X20 X11 X21
 clear h h' B1 B2 X1 X2
 go_enter Tryz.func8,Tryz.ntmps8
 go_wp2
 clear hW
 go_loopw [5] (fun i wr=>∃ k:Nat,k<=n/\i=.int .i64 k/\∃ nq,wr=W.drewN nq) (fun i _=>n-(intOf i).toNat)
 case atStart=>exact ⟨0,zhs _,rfl,0,rfl⟩
 case round =>
  obtain ⟨k,hk,rfl,nq,rfl⟩:=hrel
  by_cases hlt:k < n
  ·obtain ⟨b,o,rfl,hcell⟩:=HX.out.lie k (by rw [HX.out.len]; exact hlt)
   obtain ⟨b',o',rfl,hcell'⟩:=HY.out.lie k (by rw [HY.out.len]; exact hlt)
   obtain ⟨x,hx⟩:∃ x,xs.getD k 0=x:=⟨_,rfl⟩
   rw [hx] at hcell hcell'
   clear hx
   go_wp2_with fail
   go_quiet (fail)
   go_wp2
   go_roundw
   case rel=>exact ⟨k+1,by omega,by go_num,dr1 _ _⟩
   case measure=>simp [intOf]; omega
  ·go_wp2
   go_ret
   exact ⟨rfl,ybq HB.out _⟩
def sg (neg:Bool)(m:Nat):Int:=if neg then -(m:Int) else m
def ng (z:Int):Bool:=decide (z < 0)
theorem sg_abs (neg:Bool)(m:Nat):(sg neg m).natAbs=m:=by unfold sg; split <;> omega
theorem yon (neg:Bool)(m:Nat):(neg && decide (0 < (digs m).length))=ng (sg neg m):=by
 have h:=ya2 m
 unfold sg ng
 cases neg with
 | false=>simp
 | true =>
  simp only [Bool.true_and,if_true]
  congr 1
  apply propext
  constructor
  ·intro h1
   have:m≠0:=fun e=>by rw [h.2 e] at h1; omega
   omega
  ·intro h1
   apply zhw
   intro e
   have:=h.1 e
   omega
theorem yqc (neg:Bool){m L:Nat}(hL:(digs m).length=L):(neg && decide (0 < L))=ng (sg neg m):=by rw [← hL]; exact yon neg m
theorem yyu (s t:Bool)(a b:Nat):sg (s != t) (a*b)=sg s a*sg t b:=by
 cases s <;> cases t <;> simp [sg,zk8,zk3]
theorem yyt (s:Bool)(a b:Nat):sg s (a+b)=sg s a+sg s b:=by cases s <;> simp [sg] <;> omega
theorem zen {s t:Bool}{a b:Nat}(h:s≠t)(hb:b<=a):sg s (a-b)=sg s a+sg t b:=by
 cases s <;> cases t <;> simp [sg] at * <;> omega
theorem zeo {s t:Bool}{a b:Nat}(h:s≠t)(hb:a<=b):sg t (b-a)=sg s a+sg t b:=by
 cases s <;> cases t <;> simp [sg] at * <;> omega
theorem ynn (s:Bool)(a:Nat):sg (!s) a=- sg s a:=by cases s <;> simp [sg]
theorem yh1 (z:Int):sg (ng z) z.natAbs=z:=by
 unfold sg ng
 by_cases h:z < 0 <;> simp [h] <;> omega
structure Za (w w':World) (r:Option Addr) (cr:Nat) (z:Int):Prop where
 below:Below w.heap.size w w'
 sl:Sl w' r (Nt.digs z.natAbs).length cr (Nt.digs z.natAbs)
 fresh:∀ b o,r=some ⟨b,o,none⟩->w.heap.size<=b
theorem Box.frozen {w:World}{g n c:Nat}{neg:Bool}{p:Option Addr}(h:Box w g neg p n c)(i:Nat):w.frozen? ⟨g,i,none⟩=false:=by
 have h':w.heap[g]? = _:=h
 simp [World.frozen?,h']
theorem Box.lt {w:World}{g n c:Nat}{neg:Bool}{p:Option Addr}(h:Box w g neg p n c):g < w.heap.size:=(zhf.1 h).1
theorem Box.set {w:World}{g n c:Nat}{neg:Bool}{p:Option Addr}(h:Box w g neg p n c)(neg':Bool)(p':Option Addr)(n' c':Nat):
  Box ((w.setCell ⟨g,0,none⟩ (.bool neg')).setCell ⟨g,1,none⟩ (.slice p' n' c')) g neg' p' n' c':=by
 have h':w.heap[g]? = _:=h
 have e:=setCell_eq_setRow w g 0 _ _ _ (.bool neg') h'
 have hb:(w.setCell ⟨g,0,none⟩ (.bool neg')).heap[g]? = some (.cells #[.bool neg',.slice p n c] 24):=by
  rw [e]
  have:=setRow_heap w g _ (#[.bool neg',.slice p n c]) _ _ h'
  simpa using this
 have e2:=setCell_eq_setRow _ g 1 _ _ _ (.slice p' n' c') hb
 show _=_
 rw [e2]
 have:=setRow_heap _ g _ (#[.bool neg',.slice p' n' c']) _ _ hb
 simpa using this
theorem yac {w w':World}{a:Addr}{v:Value}(h:w.cell? a=some v)(hb:Below w.heap.size w w'):w'.cell? a=some v:=
 (World.cell?_of_block (w:=w) (hb.block a.block (yb3 h))).trans h
structure Inv (w w':World) (g2:Nat):Prop where
 below:Below w.heap.size w w'
 box:∃ b r n c,Box w' g2 b r n c
 fresh:w.heap.size<=g2
theorem Inv.drew {w w':World}{g2:Nat}(h:Inv w w' g2):Inv w w'.drew g2:=⟨h.below.drew,h.box,h.fresh⟩
theorem Inv.call {w w' w'':World}{g2:Nat}(h:Inv w w' g2)(hb:Below w'.heap.size w' w''):Inv w w'' g2:=by
 obtain ⟨b,r,n,c,hx⟩:=h.box
 exact ⟨h.below.trans (hb.mono h.below.size),⟨b,r,n,c,hx.below hb⟩,h.fresh⟩
theorem Inv.lt {w w':World}{g2:Nat}(h:Inv w w' g2):g2 < w'.heap.size:=by
 obtain ⟨b,r,n,c,hx⟩:=h.box
 exact hx.lt
theorem Inv.set {w w':World}{g2:Nat}(h:Inv w w' g2)(b:Bool)(r:Option Addr)(n c:Nat):Inv w ((w'.setCell ⟨g2,0,none⟩ (.bool b)).setCell ⟨g2,1,none⟩ (.slice r n c)) g2:=by
 obtain ⟨b0,r0,n0,c0,hx⟩:=h.box
 exact ⟨(h.below.setCell h.fresh _).setCell h.fresh _,⟨_,_,_,_,hx.set b r n c⟩,h.fresh⟩
theorem yc4 {w:World}{g2 n c:Nat}{r:Option Addr}{ds:List Nat}{v0 v1:Value}(h:Sl w r n c ds)(ha:∀ b o,r=some ⟨b,o,none⟩->b≠g2):
  Sl ((w.setCell ⟨g2,0,none⟩ v0).setCell ⟨g2,1,none⟩ v1) r n c ds:=
 ⟨h.len,h.cap,h.max,h.nil,h.ok,fun i hi=>by
  obtain ⟨b,o,e,hc⟩:=h.lie i hi
  have:=ha b o e
  refine ⟨b,o,e,?_⟩
  rw [World.cell?_setCell_far _ _ _ _ (by simpa using Ne.symm this),World.cell?_setCell_far _ _ _ _ (by simpa using Ne.symm this)]
  exact hc⟩
theorem Inv.fin {w w' w1:World}{g2:Nat}{r:Option Addr}{cr:Nat}{z:Int}(h:Inv w w' g2)(hr:Sl w' r (digs z.natAbs).length cr (digs z.natAbs))(hf:∀ b o,r=some ⟨b,o,none⟩->g2 < b)(b:Bool)(n:Nat):
  Za w ((w'.setCell ⟨g2,0,none⟩ (.bool b)).setCell ⟨g2,1,none⟩ (.slice r n cr)) r cr z:=
 ⟨(h.set b r n cr).below,yc4 hr (fun b o e=>by have:=hf b o e; omega),fun b o e=>by have:=hf b o e; have:=h.fresh; omega⟩
theorem invOf {A B C D:Prop}{w w':World}{g2:Nat}(h:A/\B/\C/\D/\Hid (Inv w w' g2)):Inv w w' g2:=h.2.2.2.2
theorem keepS {w w1 w2:World}{a1 a2 a3 a4:Addr}{v1 v2 v3 v4:Value}{g2:Nat}
  (h:w1.cell? a1=some v1/\w1.cell? a2=some v2/\w1.cell? a3=some v3/\w1.cell? a4=some v4/\Hid (Inv w w1 g2)) (hb:Below w1.heap.size w1 w2):
  w2.cell? a1=some v1/\w2.cell? a2=some v2/\w2.cell? a3=some v3/\w2.cell? a4=some v4/\Hid (Inv w w2 g2):=
 ⟨yac h.1 hb,yac h.2.1 hb,yac h.2.2.1 hb,yac h.2.2.2.1 hb,Inv.call h.2.2.2.2 hb⟩
theorem far {w:World}{a:Addr}{v v0 v1:Value}{g2:Nat}(h:w.cell? a=some v)(hg:g2≠a.block):((w.setCell ⟨g2,0,none⟩ v0).setCell ⟨g2,1,none⟩ v1).cell? a=some v:=by
 rw [World.cell?_setCell_far _ _ _ _ hg,World.cell?_setCell_far _ _ _ _ hg]
 exact h
theorem keepSet {w w1:World}{a1 a2 a3 a4:Addr}{v1 v2 v3 v4:Value}{g2:Nat}{b:Bool}{r:Option Addr}{n c:Nat}
  (h:w1.cell? a1=some v1/\w1.cell? a2=some v2/\w1.cell? a3=some v3/\w1.cell? a4=some v4/\Hid (Inv w w1 g2)) (h1:g2≠a1.block) (h2:g2≠a2.block) (h3:g2≠a3.block) (h4:g2≠a4.block):
  ((w1.setCell ⟨g2,0,none⟩ (.bool b)).setCell ⟨g2,1,none⟩ (.slice r n c)).cell? a1=some v1/\((w1.setCell ⟨g2,0,none⟩ (.bool b)).setCell ⟨g2,1,none⟩ (.slice r n c)).cell? a2=some v2/\((w1.setCell ⟨g2,0,none⟩ (.bool b)).setCell ⟨g2,1,none⟩ (.slice r n c)).cell? a3=some v3/\((w1.setCell ⟨g2,0,none⟩ (.bool b)).setCell ⟨g2,1,none⟩ (.slice r n c)).cell? a4=some v4/\Hid (Inv w ((w1.setCell ⟨g2,0,none⟩ (.bool b)).setCell ⟨g2,1,none⟩ (.slice r n c)) g2):=
 ⟨far h.1 h1,far h.2.1 h2,far h.2.2.1 h3,far h.2.2.2.1 h4,Inv.set h.2.2.2.2 b r n c⟩
theorem enter2 (w:World)(s:Bool)(p:Option Addr)(n c:Nat)(t:Bool)(q:Option Addr)(m d:Nat):
  ∃ W g,w.heap.size=g/\((w.alloc (.cells #[.bool s,.slice p n c] 24)).alloc (.cells #[.bool t,.slice q m d] 24)).alloc (.cells #[.bool false,.slice none 0 0] 24)=W ∧
   W.cell? ⟨g,0,none⟩=some (.bool s)/\W.cell? ⟨g,1,none⟩=some (.slice p n c)/\W.cell? ⟨g+1,0,none⟩=some (.bool t)/\W.cell? ⟨g+1,1,none⟩=some (.slice q m d) ∧
   W.cell? ⟨g+1+1,0,none⟩=some (.bool false)/\W.cell? ⟨g+1+1,1,none⟩=some (.slice none 0 0)/\Hid (Inv w W (g+1+1)):=by
 have B1:=yam w (.cells #[.bool s,.slice p n c] 24)
 have B2:=yam (w.alloc (.cells #[.bool s,.slice p n c] 24)) (.cells #[.bool t,.slice q m d] 24)
 have B3:=yam ((w.alloc (.cells #[.bool s,.slice p n c] 24)).alloc (.cells #[.bool t,.slice q m d] 24)) (.cells #[.bool false,.slice none 0 0] 24)
 have X1:=((ybw w s p n c).below B2).below B3
 have X2:=(ybw (w.alloc (.cells #[.bool s,.slice p n c] 24)) t q m d).below B3
 have X3:=ybw ((w.alloc (.cells #[.bool s,.slice p n c] 24)).alloc (.cells #[.bool t,.slice q m d] 24)) false none 0 0
 rw [show (w.alloc (.cells #[.bool s,.slice p n c] 24)).heap.size=w.heap.size+1 from by simp] at X2
 rw [show ((w.alloc (.cells #[.bool s,.slice p n c] 24)).alloc (.cells #[.bool t,.slice q m d] 24)).heap.size=w.heap.size+1+1 from by simp] at X3
 exact ⟨_,_,rfl,rfl,X1.at0,X1.at1,X2.at0,X2.at1,X3.at0,X3.at1,B1.trans ((B2.trans (B3.mono B2.size)).mono B1.size),⟨_,_,_,_,X3⟩,by omega⟩
theorem enter1 (w:World)(s:Bool)(p:Option Addr)(n c:Nat):
  ∃ W g,w.heap.size=g/\(w.alloc (.cells #[.bool s,.slice p n c] 24)).alloc (.cells #[.bool false,.slice none 0 0] 24)=W ∧
   W.cell? ⟨g,0,none⟩=some (.bool s)/\W.cell? ⟨g,1,none⟩=some (.slice p n c)/\W.cell? ⟨g+1,0,none⟩=some (.bool false)/\W.cell? ⟨g+1,1,none⟩=some (.slice none 0 0)/\Hid (Inv w W (g+1)):=by
 have B1:=yam w (.cells #[.bool s,.slice p n c] 24)
 have B3:=yam (w.alloc (.cells #[.bool s,.slice p n c] 24)) (.cells #[.bool false,.slice none 0 0] 24)
 have X1:=(ybw w s p n c).below B3
 have X3:=ybw (w.alloc (.cells #[.bool s,.slice p n c] 24)) false none 0 0
 rw [show (w.alloc (.cells #[.bool s,.slice p n c] 24)).heap.size=w.heap.size+1 from by simp] at X3
 exact ⟨_,_,rfl,rfl,X1.at0,X1.at1,X3.at0,X3.at1,B1.trans (B3.mono B1.size),⟨_,_,_,_,X3⟩,by omega⟩
theorem enter0 (w:World):
  ∃ W g,w.heap.size=g/\w.alloc (.cells #[.bool false,.slice none 0 0] 24)=W/\W.cell? ⟨g,0,none⟩=some (.bool false)/\W.cell? ⟨g,1,none⟩=some (.slice none 0 0)/\Hid (Inv w W g):=by
 have B3:=yam w (.cells #[.bool false,.slice none 0 0] 24)
 have X3:=ybw w false none 0 0
 exact ⟨_,_,rfl,rfl,X3.at0,X3.at1,B3,⟨_,_,_,_,X3⟩,by omega⟩
end Go.Proofs.YtdnindaohpdblaaGreat
