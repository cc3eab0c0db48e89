import Derived.Maps.AppendAt
import Derived.Deep.LoopGhost
import Derived.Test.YtdnindaohpdblaaGreatSetF
set_option linter.all false
namespace Go.Proofs.YtdnindaohpdblaaGreat
open Go.RowKit Nt
set_option maxRecDepth 20000
set_option maxHeartbeats 16000000
theorem yfm (k:Nat):Builtin.zeroCells (Value.int .u32 0).cells k=(U (List.replicate k 0)).toArray:=by
 simp only [Builtin.zeroCells,Value.cells,U]
 apply Array.ext'
 simp [Nat.mod_one]
 rw [List.eq_replicate_iff]
 simp
theorem yrx (w:World)(base:Nat)(v:Value)(A:List Nat)(k:Nat)(ty:TypeId)(hown:Own w base v A)(hb:A.length+k<=35184372088832)(hbase:base<=w.heap.size):
  ∃ v' w',(Builtin.append_ #[22,3] ty #[v,.int .i64 (k:Int)]).run Tryz.prog w=.ok v' w'/\Own w' base v' (A ++ List.replicate k 0)/\w.grownBy w' v.ownBlock/\(v'.ownBlock=v.ownBlock\/v'.ownBlock=some w.heap.size):=by
 obtain ⟨i,hi,hz,hsize,hby⟩:=info_parts infoU32
 have ht:=Tryz.underlying22
 have hu:=Tryz.underlying3
 have hw0:IntKind.i64.wrap (k:Int)=(k:Int):=by simp only [IntKind.wrap_i64]; omega
 have hneg:¬ ((k:Int) < 0):=by omega
 have h48:¬ ((281474976710656:Int) < (k:Int)*4):=by omega
 have hh:=hown
 obtain ⟨hlen,hcase⟩:=hh
 have zs:(List.replicate k (Value.int .u32 0)).toArray=(U (List.replicate k 0)).toArray:=by simp [U]
 have grown:∀ (old:Nat),old < A.length+k->∀ (row:Option Nat),
   Own (w.drew.alloc (.cells ((U A).toArray ++ (U (List.replicate k 0)).toArray ++ Builtin.zeroCells (Value.int .u32 0).cells (grownCap w (A.length+k) old 64-(A.length+k))) 64)) base (.slice (some ⟨w.heap.size,0,none⟩) (A.length+k) (grownCap w (A.length+k) old 64)) (A ++ List.replicate k 0) ∧
   w.grownBy (w.drew.alloc (.cells ((U A).toArray ++ (U (List.replicate k 0)).toArray ++ Builtin.zeroCells (Value.int .u32 0).cells (grownCap w (A.length+k) old 64-(A.length+k))) 64)) row:=by
  intro old ho row
  have hge:=grownCap_ge w (A.length+k) old 64
  have hcm:grownCap w (A.length+k) old 64<=maxLen:=grownCap_le_maxLen w (A.length+k) old 64 (by unfold maxLen; omega)
  have hL:(A ++ List.replicate k 0).length=A.length+k:=by simp
  refine ⟨⟨by rw [ydw,zi2],.inr ⟨w.heap.size,_,_,by rw [hL],hbase,heap_alloc_new w.drew _,by rw [hL]; exact hge,hcm,?_,?_⟩⟩,⟨rfl,rfl,rfl,by simp,fun j hj _=>yc9 w.drew _ j hj⟩⟩
  ·rw [yfm]
   simp only [Array.size_append,zjv,ydw,zir]
   omega
  ·rw [yfm,hL]
   simp only [Array.toList_append,← ygl]
   rw [ygl (A ++ List.replicate k 0)]
   exact List.take_left' (by simp [ydw])
 rcases hcase with ⟨rfl,h0⟩ | ⟨g,cap,cur,rfl,hbg,hg,hnc,hcm,hcs,htake⟩
 ·have hA:A=[]:=zib.1 h0
  subst hA
  by_cases hk:k=0
  ·subst hk
   refine ⟨.slice none 0 0,w,?_,by simpa using Own.nil w base,⟨rfl,rfl,rfl,zha _,fun _ _ _=>rfl⟩,Or.inl rfl⟩
   simp [Builtin.append_,run_underlying ht,run_underlying hu,sizeOf,typeInfo,hi,hsize,hby,asInt,asIntOf,IntKind.wrap_i64]
  ·have h48':¬ (281474976710656 < Builtin.nextslicecap k 0*4):=by rw [nextslicecap_zero (by omega)]; omega
   have hgr:=grown 0 (by simp; omega) (Value.ownBlock (.slice none 0 0))
   simp only [zjw,zig,zh8] at hgr
   have h63:¬ ((9223372036854775807:Int) < (k:Int)):=by omega
   refine ⟨_,_,?_,hgr.1,hgr.2,Or.inr rfl⟩
   simp [Builtin.append_,run_underlying ht,run_underlying hu,sizeOf,typeInfo,zeroValue,hi,hz,hsize,hby,asInt,asIntOf,hw0,hneg,h48,hk,h48',h63,Question.forced,run_firstCells_none,newRow,grownCap,yfm,U]
 ·by_cases hroom:A.length+k<=cap
  ·by_cases hk:k=0
   ·subst hk
    refine ⟨.slice (some ⟨g,0,none⟩) A.length cap,w,?_,by simpa using hown,⟨rfl,rfl,rfl,zha _,fun _ _ _=>rfl⟩,Or.inl rfl⟩
    simp [Builtin.append_,run_underlying ht,run_underlying hu,sizeOf,typeInfo,hi,hsize,hby,asInt,asIntOf,IntKind.wrap_i64,hnc,storeCells]
   ·have hst:=run_storeCells_at Tryz.prog g A.length 64 (U (List.replicate k 0)) 0 cur w hg (by rw [ydw]; simp; omega) (ygb _)
    simp only [zif] at hst
    refine ⟨.slice (some ⟨g,0,none⟩) (A.length+k) cap,w.setRow g (cur.toList.take A.length ++ U (List.replicate k 0) ++ cur.toList.drop (A.length+(U (List.replicate k 0)).length)).toArray,?_,?_,⟨rfl,rfl,rfl,by simp,fun j _ hj=>setRow_other w g j _ (fun e=>hj (by simp [Value.ownBlock,e]))⟩,Or.inl rfl⟩
    ·simp only [Builtin.append_,run_underlying ht,run_underlying hu,sizeOf,typeInfo,zeroValue,hi,hz,hsize,hby,asInt,asIntOf,hw0,hneg,h48,hk,hroom,Addr.add_lit,hst,yfm]
     simp [hi,hz,hsize,hby,asIntOf,hw0,hneg,h48,hk,hroom,Addr.add_lit,hst,yfm,run_underlying ht,run_underlying hu,Sem.run_bind]
    ·have hL:(A ++ List.replicate k 0).length=A.length+k:=by simp
     refine ⟨by rw [ydw,zi2],.inr ⟨g,cap,_,by rw [hL],hbg,setRow_heap w g cur _ _ _ hg,by rw [hL]; exact hroom,hcm,?_,?_⟩⟩
     ·simp only [zjv,zhx,zh6,zj0,zkj,ydw,zir]
      omega
     ·rw [hL,zi2,ygl]
      have ht':cur.toList.take A.length=U A:=by simpa using htake
      rw [ht']
      exact List.take_left' (by simp [ydw])
  ·have holds:∀ j u,(U A)[j]? = some u->w.cell? ((⟨g,0,none⟩:Addr).add j)=some u:=hown.cells (g:=g) rfl
   have hfo:=run_firstCells_some (P:=Tryz.prog) w.drew 1 A.length ⟨g,0,none⟩ A.length cap (U A) (by rw [ydw,zi2]) (by simpa using holds)
   have hgr:=grown cap (by omega) (Value.ownBlock (.slice (some ⟨g,0,none⟩) A.length cap))
   have hk:k≠0:=by omega
   have h63:¬ ((9223372036854775807:Int) < (A.length:Int)+(k:Int)):=by omega
   have hfit:=growslice_fits (need:=A.length+k) (old:=cap) (bytes:=4) (by omega) (by omega)
   have h48':¬ (281474976710656 < Builtin.nextslicecap (A.length+k) cap*4):=by omega
   refine ⟨_,_,?_,hgr.1,hgr.2,Or.inr rfl⟩
   simp [Builtin.append_,run_underlying ht,run_underlying hu,sizeOf,typeInfo,zeroValue,hi,hz,hsize,hby,asInt,asIntOf,hw0,hneg,h48,hk,hroom,h48',h63,Question.forced,hfo,newRow,grownCap,yfm]
theorem ynv {ops:Array Oper}{rest:List Oper}{o:Oper}{a:Act}{Q:Exit->Act->World->Prop}(w:World)(hgd:o.guard=none)(s x:Operand)
  (ho:o.op=.call { callee:=.builtin .append,args:=#[s,x],argTypes:=#[22,3] })
  (base:Nat) (v:Value) (A:List Nat) (hs:a.eval s=v) (hown:Own w base v A) (k:Nat) (hx:a.eval x=.int .i64 (k:Int)) (hb:A.length+k<=35184372088832) (hbase:base<=w.heap.size)
  (h:∀ v' w',Own w' base v' (A ++ List.replicate k 0)->Below base w w'->(∀ j,j < w.heap.size->v.ownBlock≠some j->w'.heap[j]? = w.heap[j]?)->(v'.ownBlock=v.ownBlock\/v'.ownBlock=some w.heap.size)->wpList Tryz.prog ops Q rest (a.put o.dst v') w'):wpList Tryz.prog ops Q (o :: rest) a w:=by
 obtain ⟨v',w',hr,h1,h2,h3⟩:=yrx w base v A k o.type hown hb hbase
 refine wpList_plain hgd fun K hK=>?_
 unfold Oper.wp execOp
 simp only [ho,resolve,invoke,builtin,Sem.run_bind,Sem.run_pure,Result.andThen_ok,List.map_toArray,zje,List.map_nil,hs,hx,hr]
 exact hK _ _ (h v' w' h1 ((Below.refl base w).grown h2 hbase (fun k hk=>(World.ownsRow.lt hown k hk).1)) (fun j hj hne=>h2.block j hj (fun e=>hne e.symm)) h3)
theorem yj3 {ops:Array Oper}{rest:List Oper}{o:Oper}{a:Act}{Q:Exit->Act->World->Prop}(w:World)(hgd:o.guard=none)(s x:Operand)
  (ho:o.op=.call { callee:=.builtin .append,args:=#[s,x],argTypes:=#[22,22] })
  (base:Nat) (v:Value) (xs:List Nat) (hs:a.eval s=v) (hown:Own w base v xs)
  (ad:Addr) (m c:Nat) (news:List Nat) (hx:a.eval x=.slice (some ad) m c) (hl:news.length=m) (hnews:Limbs w (some ad) news)
  (hb:xs.length+m<=35184372088832) (hbase:base<=w.heap.size)
  (h:∀ v' w',Own w' base v' (xs ++ news)->Below base w w'->(∀ k,k < w.heap.size->v.ownBlock≠some k->w'.heap[k]? = w.heap[k]?)->(v'.ownBlock=v.ownBlock\/v'.ownBlock=some w.heap.size)->wpList Tryz.prog ops Q rest (a.put o.dst v') w'):wpList Tryz.prog ops Q (o :: rest) a w:=by
 obtain ⟨i0,hi,hz0,hz1,hz2⟩:=info_parts infoU32
 refine wpList_append_own_at w hgd s x 22 ho base 64 i0 (.int .u32 0) 1 4 Tryz.underlying22 hi hz0 hz1 hz2 rfl (by decide) v xs.length (U xs) hs hown ad m c (U news) hx (by simp [U,hl]) ?_ (ygb news) (by unfold maxLen; omega) (by omega) hbase ?_
 ·intro j u hj
  have hj':j < news.length:=by
   have:=(zhh.1 hj).1
   simpa [U] using this
  rw [ynx news j hj'] at hj
  obtain ⟨b,o',e,hc⟩:=hnews j hj'
  obtain rfl:=Option.some.inj e
  rw [← hj,← hc]
  rw [yc5]
 ·intro v' w' h1 h2 _ h4
  refine h v' w' ?_ ?_ (fun k hk hne=>h2.block k hk (fun e=>hne e.symm)) h4
  ·unfold Own
   rw [ygl,zhx,hl]
   exact h1
  ·exact (Below.refl base w).grown h2 hbase (fun k hk=>(World.ownsRow.lt hown k hk).1)
theorem Own.atZ {w:World}{base g n cap:Nat}{xs:List Nat}(h:Own w base (.slice (some ⟨g,0,none⟩) n cap) xs):n=xs.length/\base<=g/\g < w.heap.size/\xs.length<=cap/\cap<=maxLen ∧
  (∀ k,k < xs.length->w.cell? ⟨g,k,none⟩=some (.int .u32 (xs.getD k 0:Nat)))/\(∀ k,w.frozen? ⟨g,k,none⟩=false) ∧
  (∀ k (b:Nat),k < xs.length->Own (w.setCell ⟨g,k,none⟩ (.int .u32 (b:Int))) base (.slice (some ⟨g,0,none⟩) n cap) (xs.set k b)) ∧
  (∀ k j (v:Value),j≠g->(w.setCell ⟨g,k,none⟩ v).heap[j]? = w.heap[j]?)/\(∀ k (v:Value),(w.setCell ⟨g,k,none⟩ v).heap.size=w.heap.size) ∧
  (∀ B (W:World) k (v:Value),Below B W w->B<=g->Below B W (w.setCell ⟨g,k,none⟩ v)):=by
 obtain ⟨h1,h2⟩:=h
 rcases h2 with ⟨h0,_⟩ | ⟨g',cap',cur,e,hb,hg,hc,hm,hs,ht⟩
 ·cases h0
 ·simp only [Value.slice.injEq,Option.some.injEq,Addr.mk.injEq] at e
  obtain ⟨⟨rfl,_,_⟩,rfl,rfl⟩:=e
  refine ⟨rfl,hb,(zhf.1 hg).1,hc,hm,fun k hk=>?_,fun k=>by simp [World.frozen?,hg],fun k b hk=>?_,fun k j v hj=>?_,fun k v=>?_,fun B W k v hB hBg=>?_⟩
  ·have e:(cur.toList.take (xs.length*1))[k]? = some (.int .u32 (xs.getD k 0:Nat)):=by rw [ht]; exact ynx xs k hk
   rw [zjc,if_pos (by omega)] at e
   simp only [World.cell?,hg]
   simpa using e
  ·rw [setCell_eq_setRow w g k cur _ _ _ hg]
   have hg':=setRow_heap w g _ (cur.setIfInBounds k (.int .u32 (b:Int))) _ _ hg
   refine ⟨by simp [U],Or.inr ⟨g,cap,cur.setIfInBounds k (.int .u32 (b:Int)),by simp,hb,hg',by simpa using hc,hm,by simpa using hs,?_⟩⟩
   rw [Array.toList_setIfInBounds,List.length_set,List.take_set,ht]
   unfold U
   rw [List.map_set]
  ·rw [setCell_eq_setRow w g k cur _ _ _ hg]
   exact setRow_other w g j _ hj
  ·rw [setCell_eq_setRow w g k cur _ _ _ hg]
   exact yd8 w g _
  ·rw [setCell_eq_setRow w g k cur _ _ _ hg]
   exact below_setRow hB hBg _
theorem Own.isRowZ {w:World}{base:Nat}{v:Value}{xs:List Nat}(h:Own w base v xs)(hne:xs ≠ []):∃ g cap,v=.slice (some ⟨g,0,none⟩) xs.length cap/\base<=g:=by
 obtain ⟨h1,h2⟩:=h
 rcases h2 with ⟨rfl,h0⟩ | ⟨g,cap,cur,rfl,hb,_⟩
 ·exact absurd (zib.1 h0) hne
 ·exact ⟨g,cap,rfl,hb⟩
theorem ynl (Z xs:List Nat)(k z:Nat)(hZ:Z.length=k)(hk:k < xs.length):(Z ++ xs.drop k).set k z=(Z ++ [z]) ++ xs.drop (k+1):=by
 rw [zi9 _ _ (by omega),hZ,zio,zkw hk,List.set_cons_zero,zhr]
 rfl
theorem ymt (Z xs:List Nat)(k:Nat)(hZ:Z.length=k)(hk:k < xs.length):(Z ++ xs.drop k).getD k 0=xs.getD k 0:=by
 rw [zhc,zhq (by omega),hZ,zio,List.getElem?_drop,zif,← zhc]
theorem Own.otherZ {w w':World}{base:Nat}{v:Value}{xs:List Nat}(h:Own w base v xs)(hk:∀ k,v.ownBlock=some k->w'.heap[k]? = w.heap[k]?):Own w' base v xs:=by
 obtain ⟨h1,h2⟩:=h
 refine ⟨h1,?_⟩
 rcases h2 with h2 | ⟨g,cap,cur,rfl,h4,hg,hr⟩
 ·exact Or.inl h2
 ·exact Or.inr ⟨g,cap,cur,rfl,h4,(hk g rfl).trans hg,hr⟩
theorem ym9 {M VZ VA VB cy x y z cy':Nat}(h:VZ+M*cy=VA+VB)(hs:z+4294967296*cy'=cy+(x+y)):VZ+M*z+M*4294967296*cy'=(VA+M*x)+(VB+M*y):=by
 have h1:M*(z+4294967296*cy')=M*(cy+(x+y)):=by rw [hs]
 grind
def Piled (w:World)(base:Nat)(v:Value)(n m V:Nat)(e:Ending)(w':World):Prop:=∃ (v':Value) (Z:List Nat),e=.returned v'/\Own w' base v' Z/\Ok Z/\val Z=V/\Z.length<=max n m+1/\(∀ k,k < w.heap.size->v.ownBlock≠some k->w'.heap[k]? = w.heap[k]?)/\(v'.ownBlock=v.ownBlock\/∀ k,v'.ownBlock=some k->w.heap.size<=k)/\Below base w w'
theorem yym (w:World)(base:Nat)(v:Value)(A:List Nat)(q:Option Addr)(m d:Nat)(B:List Nat)(h:Own w base v A)(ho:Ok A)(hb:base<=w.heap.size)(hB:Sl w q m d B)(hap:0 < m->∀ b o,q=some ⟨b,o,none⟩->v.ownBlock≠some b)(hn:A.length<=1099511627776)(hm:m<=1099511627776):
  Calls Tryz.prog 143 #[v,.slice q m d] w (Piled w base v A.length m (val A+val B)):=by
 obtain ⟨n,hnl⟩:∃ n,A.length=n:=⟨_,rfl⟩
 obtain ⟨k0,hk0⟩:∃ k0,k0=m-n:=⟨_,rfl⟩
 obtain ⟨p0,cap0,hv,hv0⟩:∃ p c,v=.slice p n c/\n<=c:=by
  obtain ⟨h1,h2⟩:=h
  rcases h2 with ⟨rfl,h0⟩ | ⟨g,cap,cur,rfl,_,_,hc,_⟩
  ·exact ⟨none,0,by rw [← hnl,h0],by omega⟩
  ·exact ⟨some ⟨g,0,none⟩,cap,by rw [hnl],by omega⟩
 have HO:=hid h
 have HOK:=hid ho
 have HB:=hid hB
 have HAP:=hid hap
 have hmd:=hB.cap
 have hdm:=hB.max
 unfold maxLen at hdm
 have HV:=hid hv
 have HNL:=hid hnl
 rw [hnl] at hn
 rw [hnl]
 have hmax:max (0:Int) ((m:Int)-(n:Int))=(k0:Int):=by omega
 have HK0:=hid hk0
 clear h ho hB hap hk0 hnl
 rw [hv]
 clear hv
 have HO1:=hid (HV.out ▸ HO.out)
 go_enter Tryz.func143,Tryz.ntmps143
 obtain ⟨L,hL⟩:∃ L,L=n+k0:=⟨_,rfl⟩
 have hLm:m<=L:=by have:=HK0.out; omega
 have hLx:L=max n m:=by have:=HK0.out; omega
 have hLb:L<=1099511627776:=by omega
 have HL:=hid hL
 have HLX:=hid hLx
 clear hLx
 have OPEN:Hid (∀ (v1:Value) (w1:World),Own w1 base v1 (A ++ List.replicate k0 0)->∃ p1 c1,v1=.slice p1 L c1/\L<=c1/\c1<=9223372036854775807/\(0 < L->∃ g1,p1=some ⟨g1,0,none⟩)):=fun v1 w1 h=>by
  obtain ⟨h1,h2⟩:=h
  have hl:(A ++ List.replicate k0 0).length=L:=by simp; have:=HNL.out; have:=HL.out; omega
  rcases h2 with ⟨rfl,h0⟩ | ⟨g,cap,cur,rfl,_,_,hc,hm',_⟩
  ·exact ⟨none,0,by rw [← hl,h0],by omega,by omega,fun h=>by omega⟩
  ·exact ⟨some ⟨g,0,none⟩,cap,by rw [hl],by omega,by unfold maxLen at hm'; omega,fun _=>⟨g,rfl⟩⟩
 have hcase:(n < m/\(0:Int) < (m:Int)-(n:Int)/\(m:Int)-(n:Int)=(k0:Int))\/((m:Int)-(n:Int)<=0/\k0=0/\(0:Int)=(k0:Int)):=by
  have:=HK0.out
  omega
 clear hL
 have hcase':(n < m/\(0:Int) < (m:Int)-(n:Int)/\(m:Int)-(n:Int)=(k0:Int))\/((m:Int)-(n:Int)<=0/\Hid ((0:Int)=(k0:Int))):=by
  rcases hcase with h | ⟨h1,_,h3⟩
  ·exact Or.inl h
  ·exact Or.inr ⟨h1,hid h3⟩
 clear hcase
 obtain ⟨A1,hA1⟩:∃ A1,A ++ List.replicate k0 0=A1:=⟨_,rfl⟩
 have HA1:Hid (A1.length=L/\Ok A1/\val A1=val A):=by
  refine ⟨?_,?_,?_⟩
  ·rw [← hA1]; simp; have:=HNL.out; have:=HL.out; omega
  ·rw [← hA1]; exact HOK.out.append (Ok.replicate k0)
  ·rw [← hA1,yb7,yct]; omega
 rw [hA1] at OPEN
 have HE1:=hid hA1
 clear hA1
 rcases hcase' with ⟨hc0,hc1,hc2⟩ | ⟨hc1,HC3⟩
 ·go_wp2_with (at_builtin; refine ynv _ rfl (.tmp 8) (.tmp 14) rfl base (.slice p0 n cap0) A rfl HO1.out k0 rfl (by rw [HNL.out]; omega) hb ?_; rw [HE1.out]; intro v1 w1 hown1 hbel1 hoth1 hat1; obtain ⟨p1,c1,rfl,hc11,hc12,hg1⟩:=OPEN.out v1 w1 hown1; have HOWN1:=hid hown1; have HBEL1:=hid hbel1; have HOTH1:=hid hoth1; have HAT1:=hid hat1; have HG1:=hid hg1; clear hown1 hbel1 hoth1 hat1 hg1)
  clear hc0 hc1 hc2
  go_loopg [5,18] m (fun gk s5 s18 wr=>∃ (k cy:Nat) (Z:List Nat),m-k<=gk/\k<=m/\s18=.int .i64 k/\s5=.int .u64 cy/\cy<=1/\Hid (Z.length=k/\Ok Z/\val Z+4294967296 ^ k*cy=val (A1.take k)+val (B.take k)/\Own wr base (.slice p1 L c1) (Z ++ A1.drop k)/\(∀ j,(Value.slice p1 L c1).ownBlock≠some j->wr.heap[j]? = w1.heap[j]?)/\wr.heap.size=w1.heap.size/\Below base w wr))
  case atStart=>exact ⟨0,0,[],zk7 _ _,zhs _,rfl,rfl,by omega,rfl,Ok.nil,by simp [val],by simpa using HOWN1.out,fun _ _=>rfl,rfl,HBEL1.out⟩
  case round =>
   obtain ⟨k,cy,Z,hgk,hk,rfl,rfl,hcy,HR⟩:=hrel
   by_cases hlt:k < m
   ·obtain ⟨g1,rfl⟩:=HG1.out (by omega)
    obtain ⟨-,hbg,-,-,-,hcell,hfr,hset,hoth,hsz,hbel⟩:=HR.out.2.2.2.1.atZ
    have hkx:k < A1.length:=by rw [HA1.out.1]; omega
    have hkl:k < (Z ++ A1.drop k).length:=by rw [zhx,HR.out.1,zj0]; omega
    have h1:=hcell k hkl
    rw [ymt Z A1 k HR.out.1 hkx] at h1
    have h2:=hfr k
    obtain ⟨x,hx⟩:∃ x,A1.getD k 0=x:=⟨_,rfl⟩
    rw [hx] at h1
    have hxb:x < 4294967296:=by rw [← hx]; exact HA1.out.2.1.getD k
    obtain ⟨b,o',rfl,hcB⟩:=HB.out.lie k (by rw [HB.out.len]; exact hlt)
    have hbw:b < w.heap.size:=yb3 hcB
    have hown:v.ownBlock≠some b:=HAP.out (by omega) b o' rfl
    have hb1:b≠g1:=fun e=>by
     rcases HAT1.out with ea | ea
     ·exact hown (by rw [HV.out]; rw [← ea,← e]; rfl)
     ·have:g1=w.heap.size:=Option.some.inj ea
      omega
    have hcB2:wr.cell? ⟨b,o'+k,none⟩=some (.int .u32 (B.getD k 0)):=by
     have e1:wr.heap[b]? = w.heap[b]?:=(HR.out.2.2.2.2.1 b (fun e=>hb1 (Option.some.inj e).symm)).trans (HOTH1.out b hbw (by rw [← HV.out]; exact hown))
     exact (World.cell?_of_block (w:=w) e1).trans hcB
    obtain ⟨y,hy⟩:∃ y,B.getD k 0=y:=⟨_,rfl⟩
    rw [hy] at hcB2
    have hyb:y < 4294967296:=by rw [← hy]; exact HB.out.ok.getD k
    have HSET:=hid (And.intro hset (And.intro hoth (And.intro hsz (And.intro hbel hbg))))
    have HX:=hid hx
    have HY:=hid hy
    clear hcell hfr hset hoth hsz hbel hx hy hcB hown hb1 hbg
    go_wp2_with fail
    go_quiet (fail)
    go_wp2_with fail
    go_roundg (m-(k+1))
    case measure=>omega
    case rel =>
     obtain ⟨z1,z2,z3,z4,z5,z6,z7⟩:=HR.out
     have ez:((cy:Int)+((x:Int)+(y:Int))) % 4294967296=(((cy+(x+y)) % 4294967296:Nat):Int):=by omega
     have ec:((cy:Int)+((x:Int)+(y:Int))) / 4294967296=(((cy+(x+y)) / 4294967296:Nat):Int):=by omega
     rw [ez,ec]
     have hs:=HSET.out.1 k ((cy+(x+y)) % 4294967296) hkl
     rw [ynl Z A1 k _ z1 hkx] at hs
     refine ⟨k+1,(cy+(x+y)) / 4294967296,Z ++ [(cy+(x+y)) % 4294967296],zha _,by omega,by go_num,rfl,by omega,by simp [z1],z2.snoc (by omega),?_,hs,?_,?_,?_⟩
     ·rw [yci,z1,yau A1 k hkx,yau B k (by rw [HB.out.len]; exact hlt),HX.out,HY.out,zhu]
      exact ym9 z3 (by omega)
     ·intro j hj
      exact (HSET.out.2.1 k j _ (fun e=>hj (by rw [e]; rfl))).trans (z5 j hj)
     ·exact (HSET.out.2.2.1 _ _).trans z6
     ·exact ybq (HSET.out.2.2.2.1 _ _ k _ z7 HSET.out.2.2.2.2) nq
   ·have hkm:k=m:=by omega
    have HST:Hid (Z.length=m/\Ok Z/\val Z+4294967296 ^ m*(cy+val (A1.drop m))=val A+val B/\Own wr base (.slice p1 L c1) (Z ++ A1.drop m)/\(∀ j,j < w.heap.size->v.ownBlock≠some j->wr.heap[j]? = w.heap[j]?)/\w.heap.size<=wr.heap.size/\Below base w wr):=by
     obtain ⟨z1,z2,z3,z4,z5,z6,z7⟩:=HR.out
     rw [hkm] at z1 z3 z4
     rw [zhg (l:=B) (by rw [HB.out.len]; exact zha _)] at z3
     refine ⟨z1,z2,?_,z4,fun j hj hne=>?_,by rw [z6]; exact HBEL1.out.size,z7⟩
     ·have e:=yck A1 m (by rw [HA1.out.1]; omega)
      rw [HA1.out.2.2] at e
      rw [e,zht]
      omega
     ·refine (z5 j (fun e=>?_)).trans (HOTH1.out j hj (by rw [← HV.out]; exact hne))
      rcases HAT1.out with ea | ea
      ·exact hne (by rw [HV.out,← ea]; exact e)
      ·rw [ea] at e
       have:=Option.some.inj e
       omega
    have HWH:Hid ((Value.slice p1 L c1).ownBlock=v.ownBlock\/∀ j,(Value.slice p1 L c1).ownBlock=some j->w.heap.size<=j):=by
     rcases HAT1.out with ea | ea
     ·exact Or.inl (by rw [HV.out]; exact ea)
     ·exact Or.inr (fun j hj=>by rw [ea] at hj; have:=Option.some.inj hj; omega)
    clear HR hkm hgk HOTH1 HAT1 HOWN1 HBEL1
    go_wp2
    go_loopg [0,5,7] (L+2) (fun gk s0 s5 s7 wr=>∃ (k cy:Nat) (Z R:List Nat) (p2:Option Addr) (c2:Nat),L+2-k<=gk/\k<=L+1/\s7=.int .i64 k/\s5=.int .u64 cy/\cy<=1/\s0=.slice p2 (Z ++ R).length c2/\(Z ++ R).length<=c2/\c2<=9223372036854775807/\Hid (Z.length=k/\Ok Z/\Ok R/\val Z+4294967296 ^ k*(cy+val R)=val A+val B/\((Z ++ R).length<=L\/(cy=0/\(Z ++ R).length=L+1))/\Own wr base s0 (Z ++ R)/\(∀ j,j < w.heap.size->v.ownBlock≠some j->wr.heap[j]? = w.heap[j]?)/\w.heap.size<=wr.heap.size/\Below base w wr/\(s0.ownBlock=v.ownBlock\/∀ j,s0.ownBlock=some j->w.heap.size<=j)))
    case atStart =>
     obtain ⟨z1,z2,z3,z4,z5,z6,z7⟩:=HST.out
     have hl:(Z ++ A1.drop m).length=L:=by simp [z1,HA1.out.1]; omega
     exact ⟨m,cy,Z,A1.drop m,p1,c1,by omega,by omega,rfl,rfl,hcy,by rw [hl],by rw [hl]; omega,hc12,z1,z2,HA1.out.2.1.drop m,z3,Or.inl (by rw [hl]; exact zha _),z4,z5,z6,z7,HWH.out⟩
    case round =>
     obtain ⟨k,cy,Z,R,p2,c2,hgk,hk,rfl,rfl,hcy,rfl,hlc,hc2,HR⟩:=hrel
     obtain ⟨n2,hn2⟩:∃ n2,(Z ++ R).length=n2:=⟨_,rfl⟩
     have HN2:=hid hn2
     rw [hn2] at hlc ⊢
     by_cases hc0:cy=0
     ·subst hc0
      clear hn2
      go_wp2
      go_ret
      obtain ⟨z1,z2,z3,z4,z5,z6,z7,z8,z9,z10⟩:=HR.out
      rw [HN2.out] at z5 z6 z10
      rw [HV.out] at z7 z10
      refine ⟨.slice p2 n2 c2,Z ++ R,rfl,z6,z2.append z3,?_,?_,z7,z10,z9⟩
      ·rw [yb7,z1]; rw [zig] at z4; exact z4
      ·rw [HN2.out,← HLX.out]; rcases z5 with h | ⟨_,h⟩ <;> omega
     ·obtain rfl:cy=1:=by omega
      have hkn:k<=n2:=by rw [← hn2,zhx,HR.out.1]; omega
      have hn2L:n2<=L:=by
       rcases HR.out.2.2.2.2.1 with h | ⟨h,_⟩
       ·rw [← hn2]; exact h
       ·cases h
      clear hn2
      by_cases hlt2:k < n2
      ·obtain ⟨x,R',hxR⟩:∃ x R',R=x :: R':=by
        cases R with
        | nil=>have:=HN2.out; simp [HR.out.1] at this; omega
        | cons x R'=>exact ⟨x,R',rfl⟩
       subst hxR
       have hne:Z ++ x :: R' ≠ []:=by simp
       obtain ⟨g2,cap2,e2,hbg⟩:=(HN2.out ▸ HR.out.2.2.2.2.2.1).isRowZ hne
       simp only [Value.slice.injEq] at e2
       obtain ⟨rfl,-,rfl⟩:=e2
       obtain ⟨-,-,-,-,-,hcell,hfr,hset,hoth,hsz,hbel⟩:=(HN2.out ▸ HR.out.2.2.2.2.2.1).atZ
       have hkl:k < (Z ++ x :: R').length:=by rw [HN2.out]; exact hlt2
       have h1:=hcell k hkl
       have hgx:(Z ++ x :: R').getD k 0=x:=by rw [zhc,zhq (by rw [HR.out.1]; exact zha _),HR.out.1]; simp
       rw [hgx] at h1
       have h2:=hfr k
       have hxb:x < 4294967296:=HR.out.2.2.1.head
       have HSET:=hid (And.intro hset (And.intro hoth (And.intro hsz (And.intro hbel hbg))))
       clear hcell hfr hset hoth hsz hbel hgx hne hbg
       go_wp2_with fail
       go_roundg (L+2-(k+1))
       case measure=>omega
       case rel =>
        obtain ⟨z1,z2,z3,z4,z5,z6,z7,z8,z9,z10⟩:=HR.out
        have ez:((1:Int)+(x:Int)) % 4294967296=(((1+x) % 4294967296:Nat):Int):=by omega
        have ec:((1:Int)+(x:Int)) / 4294967296=(((1+x) / 4294967296:Nat):Int):=by omega
        rw [ez,ec]
        have hs:=HSET.out.1 k ((1+x) % 4294967296) hkl
        have hset2:(Z ++ x :: R').set k ((1+x) % 4294967296)=(Z ++ [(1+x) % 4294967296]) ++ R':=by
         rw [zi9 _ _ (by rw [z1]; exact zha _),z1,zio,List.set_cons_zero,zhr]
         rfl
        rw [hset2] at hs
        have hl2:((Z ++ [(1+x) % 4294967296]) ++ R').length=n2:=by rw [← HN2.out]; simp
        refine ⟨k+1,(1+x) / 4294967296,Z ++ [(1+x) % 4294967296],R',some ⟨g2,0,none⟩,c2,zha _,by omega,by go_num,rfl,by omega,by rw [hl2],by rw [hl2]; exact hlc,hc2,by simp [z1],z2.snoc (by omega),z3.tail,?_,?_,hs,?_,?_,?_,?_⟩
        ·rw [← z4,yci,z1,zhu]
         have e3:(1+x) % 4294967296+4294967296*((1+x) / 4294967296)=1+x:=by omega
         have e4:val (x :: R')=x+4294967296*val R':=rfl
         rw [e4]
         generalize (1+x) % 4294967296=a at *
         generalize (1+x) / 4294967296=b at *
         generalize 4294967296 ^ k=M at *
         generalize val R'=r at *
         have e5:M*(a+4294967296*b)=M*(1+x):=by rw [e3]
         clear z4 e3 hs hset2 hl2
         grind
        ·exact Or.inl (by rw [hl2]; exact hn2L)
        ·intro j hj hne
         rcases z10 with e | e
         ·exact (HSET.out.2.1 k j _ (fun e'=>hne (by rw [← e,e',HN2.out]; rfl))).trans (z7 j hj hne)
         ·have:=e g2 (by rw [HN2.out]; rfl)
          exact (HSET.out.2.1 k j _ (by omega)).trans (z7 j hj hne)
        ·rw [HSET.out.2.2.1]; exact z8
        ·exact HSET.out.2.2.2.1 _ _ k _ z9 HSET.out.2.2.2.2
        ·rw [HN2.out] at z10; exact z10
      ·have hkn2:k=n2:=by omega
       have hR0:R=[]:=by
        have h:=HN2.out
        rw [zhx,HR.out.1] at h
        exact zib.1 (by omega)
       subst hR0
       have HKN:=hid hkn2
       have hbw:base<=wr.heap.size:=zhb hb HR.out.2.2.2.2.2.2.2.1
       have hown2:Own wr base (.slice p2 n2 c2) Z:=by
        have:=HR.out.2.2.2.2.2.1
        rw [HN2.out,zhz] at this
        exact this
       have HOWN2:=hid hown2
       have hZl:Z.length=n2:=by rw [HR.out.1]; exact hkn2
       have HZL:=hid hZl
       clear hown2 hZl
       subst hkn2
       go_wp2_with (at_builtin; refine yj3 _ rfl (.tmp 52) (.tmp 53) rfl base (.slice p2 k c2) Z rfl (HOWN2.out.alloc _) ⟨wr.heap.size,0,none⟩ 1 1 [0] rfl rfl (ydl wr 0 rfl) (by rw [HZL.out]; omega) (by simp; omega) ?_; intro v' w3 hown' hbel hoth hat; obtain ⟨g',cap',rfl,hg'⟩:=hown'.isRowZ (by simp); obtain ⟨-,-,-,hxc,hcm,hcell,hfr,hset,hoth2,hsz,hbel2⟩:=hown'.atZ; have h1:=hcell k (by simp [HZL.out]); have hgx:(Z ++ [0]).getD k 0=0:=(by rw [zhc,zhq (by rw [HZL.out]; exact zha _),HZL.out]; simp); rw [hgx] at h1; have h2:=hfr k; have HALL:=hid (And.intro hown' (And.intro hbel (And.intro hoth (And.intro hat (And.intro hset (And.intro hoth2 (And.intro hsz (And.intro hbel2 hg')))))))); have hl3:(Z ++ [0]).length=k+1:=(by simp [HZL.out]); rw [hl3] at hxc ⊢; unfold maxLen at hcm; clear hown' hbel hoth hat hcell hfr hset hoth2 hsz hbel2 hgx hg')
       go_roundg (L+2-(k+1))
       case measure=>omega
       case rel =>
        obtain ⟨z1,z2,z3,z4,z5,z6,z7,z8,z9,z10⟩:=HR.out
        obtain ⟨y1,y2,y3,y4,y5,y6,y7,y8,y9⟩:=HALL.out
        have hs:=y5 k 1 (by simp [HZL.out])
        have hset2:(Z ++ [0]).set k 1=Z ++ [1]:=by
         rw [zi9 _ _ (by rw [HZL.out]; exact zha _),HZL.out,zio]
         rfl
        rw [hset2] at hs
        have hl4:((Z ++ [1]) ++ ([]:List Nat)).length=k+1:=by simp [HZL.out]
        have hl5:(Z ++ [0]).length=k+1:=by simp [HZL.out]
        rw [hl5] at hs y4 y5
        have zown:(Value.slice p2 k c2).ownBlock=v.ownBlock\/∀ j,(Value.slice p2 k c2).ownBlock=some j->w.heap.size<=j:=by
         have e:=HN2.out
         rw [e] at z10
         exact z10
        have al:∀ j,j < w.heap.size->(wr.alloc (.cells #[.int .u32 ((0:Nat):Int)] 64)).heap[j]? = wr.heap[j]?:=fun j hj=>yc9 wr _ j (by omega)
        have hgn:(Value.slice (some ⟨g',0,none⟩) (k+1) cap').ownBlock=v.ownBlock\/∀ j,(Value.slice (some ⟨g',0,none⟩) (k+1) cap').ownBlock=some j->w.heap.size<=j:=by
         rcases y4 with e | e
         ·rcases zown with f | f
          ·exact Or.inl (e.trans f)
          ·exact Or.inr (fun j hj=>f j (by rw [← e]; exact hj))
         ·refine Or.inr (fun j hj=>?_)
          rw [e] at hj
          have:=Option.some.inj hj
          simp at this
          omega
        have hall3:∀ j,j < w.heap.size->v.ownBlock≠some j->w3.heap[j]? = w.heap[j]?:=fun j hj hne=>by
         refine (y3 j (by simp; omega) (fun e=>?_)).trans ((al j hj).trans (z7 j hj hne))
         rcases zown with f | f
         ·exact hne (by rw [← f]; exact e)
         ·have:=f j e; omega
        refine ⟨k+1,0,Z ++ [1],[],some ⟨g',0,none⟩,cap',zha _,by omega,by go_num,rfl,by omega,by rw [hl4],by rw [hl4]; exact hxc,by omega,by simp [HZL.out],z2.snoc (by omega),Ok.nil,?_,?_,?_,?_,?_,?_,hgn⟩
        ·have z4':val Z+4294967296 ^ k*(1+0)=val A+val B:=z4
         rw [yci,HZL.out,← z4']
         simp [val]
        ·by_cases hkL:k+1<=L
         ·exact Or.inl (by rw [hl4]; exact hkL)
         ·exact Or.inr ⟨rfl,by rw [hl4]; omega⟩
        ·simpa using hs
        ·intro j hj hne
         refine (y6 k j _ (fun e=>?_)).trans (hall3 j hj hne)
         rcases hgn with f | f
         ·exact hne (by rw [← f,e]; rfl)
         ·have:=f g' rfl; omega
        ·rw [y7]
         have e1:wr.heap.size<=(wr.alloc (.cells #[.int .u32 ((0:Nat):Int)] 64)).heap.size:=by simp
         have e2:=y2.size
         exact zhb z8 (zhb e1 e2)
        ·refine y8 _ _ k _ ?_ y9
         have e1:=z9.alloc hbw (.cells #[.int .u32 ((0:Nat):Int)] 64)
         exact ⟨y2.os.trans e1.os,y2.tape.trans e1.tape,y2.output.trans e1.output,zhb e1.size y2.size,fun i hi=>(y2.block i hi).trans (e1.block i hi)⟩
 ·go_wp2_with (at_builtin; refine ynv _ rfl (.tmp 8) (.tmp 14) rfl base (.slice p0 n cap0) A rfl HO1.out k0 (by rw [← HC3.out]; rfl) (by rw [HNL.out]; omega) hb ?_; rw [HE1.out]; intro v1 w1 hown1 hbel1 hoth1 hat1; obtain ⟨p1,c1,rfl,hc11,hc12,hg1⟩:=OPEN.out v1 w1 hown1; have HOWN1:=hid hown1; have HBEL1:=hid hbel1; have HOTH1:=hid hoth1; have HAT1:=hid hat1; have HG1:=hid hg1; clear hown1 hbel1 hoth1 hat1 hg1)
  clear hc1 HC3
  go_loopg [5,18] m (fun gk s5 s18 wr=>∃ (k cy:Nat) (Z:List Nat),m-k<=gk/\k<=m/\s18=.int .i64 k/\s5=.int .u64 cy/\cy<=1/\Hid (Z.length=k/\Ok Z/\val Z+4294967296 ^ k*cy=val (A1.take k)+val (B.take k)/\Own wr base (.slice p1 L c1) (Z ++ A1.drop k)/\(∀ j,(Value.slice p1 L c1).ownBlock≠some j->wr.heap[j]? = w1.heap[j]?)/\wr.heap.size=w1.heap.size/\Below base w wr))
  case atStart=>exact ⟨0,0,[],zk7 _ _,zhs _,rfl,rfl,by omega,rfl,Ok.nil,by simp [val],by simpa using HOWN1.out,fun _ _=>rfl,rfl,HBEL1.out⟩
  case round =>
   obtain ⟨k,cy,Z,hgk,hk,rfl,rfl,hcy,HR⟩:=hrel
   by_cases hlt:k < m
   ·obtain ⟨g1,rfl⟩:=HG1.out (by omega)
    obtain ⟨-,hbg,-,-,-,hcell,hfr,hset,hoth,hsz,hbel⟩:=HR.out.2.2.2.1.atZ
    have hkx:k < A1.length:=by rw [HA1.out.1]; omega
    have hkl:k < (Z ++ A1.drop k).length:=by rw [zhx,HR.out.1,zj0]; omega
    have h1:=hcell k hkl
    rw [ymt Z A1 k HR.out.1 hkx] at h1
    have h2:=hfr k
    obtain ⟨x,hx⟩:∃ x,A1.getD k 0=x:=⟨_,rfl⟩
    rw [hx] at h1
    have hxb:x < 4294967296:=by rw [← hx]; exact HA1.out.2.1.getD k
    obtain ⟨b,o',rfl,hcB⟩:=HB.out.lie k (by rw [HB.out.len]; exact hlt)
    have hbw:b < w.heap.size:=yb3 hcB
    have hown:v.ownBlock≠some b:=HAP.out (by omega) b o' rfl
    have hb1:b≠g1:=fun e=>by
     rcases HAT1.out with ea | ea
     ·exact hown (by rw [HV.out]; rw [← ea,← e]; rfl)
     ·have:g1=w.heap.size:=Option.some.inj ea
      omega
    have hcB2:wr.cell? ⟨b,o'+k,none⟩=some (.int .u32 (B.getD k 0)):=by
     have e1:wr.heap[b]? = w.heap[b]?:=(HR.out.2.2.2.2.1 b (fun e=>hb1 (Option.some.inj e).symm)).trans (HOTH1.out b hbw (by rw [← HV.out]; exact hown))
     exact (World.cell?_of_block (w:=w) e1).trans hcB
    obtain ⟨y,hy⟩:∃ y,B.getD k 0=y:=⟨_,rfl⟩
    rw [hy] at hcB2
    have hyb:y < 4294967296:=by rw [← hy]; exact HB.out.ok.getD k
    have HSET:=hid (And.intro hset (And.intro hoth (And.intro hsz (And.intro hbel hbg))))
    have HX:=hid hx
    have HY:=hid hy
    clear hcell hfr hset hoth hsz hbel hx hy hcB hown hb1 hbg
    go_wp2_with fail
    go_quiet (fail)
    go_wp2_with fail
    go_roundg (m-(k+1))
    case measure=>omega
    case rel =>
     obtain ⟨z1,z2,z3,z4,z5,z6,z7⟩:=HR.out
     have ez:((cy:Int)+((x:Int)+(y:Int))) % 4294967296=(((cy+(x+y)) % 4294967296:Nat):Int):=by omega
     have ec:((cy:Int)+((x:Int)+(y:Int))) / 4294967296=(((cy+(x+y)) / 4294967296:Nat):Int):=by omega
     rw [ez,ec]
     have hs:=HSET.out.1 k ((cy+(x+y)) % 4294967296) hkl
     rw [ynl Z A1 k _ z1 hkx] at hs
     refine ⟨k+1,(cy+(x+y)) / 4294967296,Z ++ [(cy+(x+y)) % 4294967296],zha _,by omega,by go_num,rfl,by omega,by simp [z1],z2.snoc (by omega),?_,hs,?_,?_,?_⟩
     ·rw [yci,z1,yau A1 k hkx,yau B k (by rw [HB.out.len]; exact hlt),HX.out,HY.out,zhu]
      exact ym9 z3 (by omega)
     ·intro j hj
      exact (HSET.out.2.1 k j _ (fun e=>hj (by rw [e]; rfl))).trans (z5 j hj)
     ·exact (HSET.out.2.2.1 _ _).trans z6
     ·exact ybq (HSET.out.2.2.2.1 _ _ k _ z7 HSET.out.2.2.2.2) nq
   ·have hkm:k=m:=by omega
    have HST:Hid (Z.length=m/\Ok Z/\val Z+4294967296 ^ m*(cy+val (A1.drop m))=val A+val B/\Own wr base (.slice p1 L c1) (Z ++ A1.drop m)/\(∀ j,j < w.heap.size->v.ownBlock≠some j->wr.heap[j]? = w.heap[j]?)/\w.heap.size<=wr.heap.size/\Below base w wr):=by
     obtain ⟨z1,z2,z3,z4,z5,z6,z7⟩:=HR.out
     rw [hkm] at z1 z3 z4
     rw [zhg (l:=B) (by rw [HB.out.len]; exact zha _)] at z3
     refine ⟨z1,z2,?_,z4,fun j hj hne=>?_,by rw [z6]; exact HBEL1.out.size,z7⟩
     ·have e:=yck A1 m (by rw [HA1.out.1]; omega)
      rw [HA1.out.2.2] at e
      rw [e,zht]
      omega
     ·refine (z5 j (fun e=>?_)).trans (HOTH1.out j hj (by rw [← HV.out]; exact hne))
      rcases HAT1.out with ea | ea
      ·exact hne (by rw [HV.out,← ea]; exact e)
      ·rw [ea] at e
       have:=Option.some.inj e
       omega
    have HWH:Hid ((Value.slice p1 L c1).ownBlock=v.ownBlock\/∀ j,(Value.slice p1 L c1).ownBlock=some j->w.heap.size<=j):=by
     rcases HAT1.out with ea | ea
     ·exact Or.inl (by rw [HV.out]; exact ea)
     ·exact Or.inr (fun j hj=>by rw [ea] at hj; have:=Option.some.inj hj; omega)
    clear HR hkm hgk HOTH1 HAT1 HOWN1 HBEL1
    go_wp2
    go_loopg [0,5,7] (L+2) (fun gk s0 s5 s7 wr=>∃ (k cy:Nat) (Z R:List Nat) (p2:Option Addr) (c2:Nat),L+2-k<=gk/\k<=L+1/\s7=.int .i64 k/\s5=.int .u64 cy/\cy<=1/\s0=.slice p2 (Z ++ R).length c2/\(Z ++ R).length<=c2/\c2<=9223372036854775807/\Hid (Z.length=k/\Ok Z/\Ok R/\val Z+4294967296 ^ k*(cy+val R)=val A+val B/\((Z ++ R).length<=L\/(cy=0/\(Z ++ R).length=L+1))/\Own wr base s0 (Z ++ R)/\(∀ j,j < w.heap.size->v.ownBlock≠some j->wr.heap[j]? = w.heap[j]?)/\w.heap.size<=wr.heap.size/\Below base w wr/\(s0.ownBlock=v.ownBlock\/∀ j,s0.ownBlock=some j->w.heap.size<=j)))
    case atStart =>
     obtain ⟨z1,z2,z3,z4,z5,z6,z7⟩:=HST.out
     have hl:(Z ++ A1.drop m).length=L:=by simp [z1,HA1.out.1]; omega
     exact ⟨m,cy,Z,A1.drop m,p1,c1,by omega,by omega,rfl,rfl,hcy,by rw [hl],by rw [hl]; omega,hc12,z1,z2,HA1.out.2.1.drop m,z3,Or.inl (by rw [hl]; exact zha _),z4,z5,z6,z7,HWH.out⟩
    case round =>
     obtain ⟨k,cy,Z,R,p2,c2,hgk,hk,rfl,rfl,hcy,rfl,hlc,hc2,HR⟩:=hrel
     obtain ⟨n2,hn2⟩:∃ n2,(Z ++ R).length=n2:=⟨_,rfl⟩
     have HN2:=hid hn2
     rw [hn2] at hlc ⊢
     by_cases hc0:cy=0
     ·subst hc0
      clear hn2
      go_wp2
      go_ret
      obtain ⟨z1,z2,z3,z4,z5,z6,z7,z8,z9,z10⟩:=HR.out
      rw [HN2.out] at z5 z6 z10
      rw [HV.out] at z7 z10
      refine ⟨.slice p2 n2 c2,Z ++ R,rfl,z6,z2.append z3,?_,?_,z7,z10,z9⟩
      ·rw [yb7,z1]; rw [zig] at z4; exact z4
      ·rw [HN2.out,← HLX.out]; rcases z5 with h | ⟨_,h⟩ <;> omega
     ·obtain rfl:cy=1:=by omega
      have hkn:k<=n2:=by rw [← hn2,zhx,HR.out.1]; omega
      have hn2L:n2<=L:=by
       rcases HR.out.2.2.2.2.1 with h | ⟨h,_⟩
       ·rw [← hn2]; exact h
       ·cases h
      clear hn2
      by_cases hlt2:k < n2
      ·obtain ⟨x,R',hxR⟩:∃ x R',R=x :: R':=by
        cases R with
        | nil=>have:=HN2.out; simp [HR.out.1] at this; omega
        | cons x R'=>exact ⟨x,R',rfl⟩
       subst hxR
       have hne:Z ++ x :: R' ≠ []:=by simp
       obtain ⟨g2,cap2,e2,hbg⟩:=(HN2.out ▸ HR.out.2.2.2.2.2.1).isRowZ hne
       simp only [Value.slice.injEq] at e2
       obtain ⟨rfl,-,rfl⟩:=e2
       obtain ⟨-,-,-,-,-,hcell,hfr,hset,hoth,hsz,hbel⟩:=(HN2.out ▸ HR.out.2.2.2.2.2.1).atZ
       have hkl:k < (Z ++ x :: R').length:=by rw [HN2.out]; exact hlt2
       have h1:=hcell k hkl
       have hgx:(Z ++ x :: R').getD k 0=x:=by rw [zhc,zhq (by rw [HR.out.1]; exact zha _),HR.out.1]; simp
       rw [hgx] at h1
       have h2:=hfr k
       have hxb:x < 4294967296:=HR.out.2.2.1.head
       have HSET:=hid (And.intro hset (And.intro hoth (And.intro hsz (And.intro hbel hbg))))
       clear hcell hfr hset hoth hsz hbel hgx hne hbg
       go_wp2_with fail
       go_roundg (L+2-(k+1))
       case measure=>omega
       case rel =>
        obtain ⟨z1,z2,z3,z4,z5,z6,z7,z8,z9,z10⟩:=HR.out
        have ez:((1:Int)+(x:Int)) % 4294967296=(((1+x) % 4294967296:Nat):Int):=by omega
        have ec:((1:Int)+(x:Int)) / 4294967296=(((1+x) / 4294967296:Nat):Int):=by omega
        rw [ez,ec]
        have hs:=HSET.out.1 k ((1+x) % 4294967296) hkl
        have hset2:(Z ++ x :: R').set k ((1+x) % 4294967296)=(Z ++ [(1+x) % 4294967296]) ++ R':=by
         rw [zi9 _ _ (by rw [z1]; exact zha _),z1,zio,List.set_cons_zero,zhr]
         rfl
        rw [hset2] at hs
        have hl2:((Z ++ [(1+x) % 4294967296]) ++ R').length=n2:=by rw [← HN2.out]; simp
        refine ⟨k+1,(1+x) / 4294967296,Z ++ [(1+x) % 4294967296],R',some ⟨g2,0,none⟩,c2,zha _,by omega,by go_num,rfl,by omega,by rw [hl2],by rw [hl2]; exact hlc,hc2,by simp [z1],z2.snoc (by omega),z3.tail,?_,?_,hs,?_,?_,?_,?_⟩
        ·rw [← z4,yci,z1,zhu]
         have e3:(1+x) % 4294967296+4294967296*((1+x) / 4294967296)=1+x:=by omega
         have e4:val (x :: R')=x+4294967296*val R':=rfl
         rw [e4]
         generalize (1+x) % 4294967296=a at *
         generalize (1+x) / 4294967296=b at *
         generalize 4294967296 ^ k=M at *
         generalize val R'=r at *
         have e5:M*(a+4294967296*b)=M*(1+x):=by rw [e3]
         clear z4 e3 hs hset2 hl2
         grind
        ·exact Or.inl (by rw [hl2]; exact hn2L)
        ·intro j hj hne
         rcases z10 with e | e
         ·exact (HSET.out.2.1 k j _ (fun e'=>hne (by rw [← e,e',HN2.out]; rfl))).trans (z7 j hj hne)
         ·have:=e g2 (by rw [HN2.out]; rfl)
          exact (HSET.out.2.1 k j _ (by omega)).trans (z7 j hj hne)
        ·rw [HSET.out.2.2.1]; exact z8
        ·exact HSET.out.2.2.2.1 _ _ k _ z9 HSET.out.2.2.2.2
        ·rw [HN2.out] at z10; exact z10
      ·have hkn2:k=n2:=by omega
       have hR0:R=[]:=by
        have h:=HN2.out
        rw [zhx,HR.out.1] at h
        exact zib.1 (by omega)
       subst hR0
       have HKN:=hid hkn2
       have hbw:base<=wr.heap.size:=zhb hb HR.out.2.2.2.2.2.2.2.1
       have hown2:Own wr base (.slice p2 n2 c2) Z:=by
        have:=HR.out.2.2.2.2.2.1
        rw [HN2.out,zhz] at this
        exact this
       have HOWN2:=hid hown2
       have hZl:Z.length=n2:=by rw [HR.out.1]; exact hkn2
       have HZL:=hid hZl
       clear hown2 hZl
       subst hkn2
       go_wp2_with (at_builtin; refine yj3 _ rfl (.tmp 52) (.tmp 53) rfl base (.slice p2 k c2) Z rfl (HOWN2.out.alloc _) ⟨wr.heap.size,0,none⟩ 1 1 [0] rfl rfl (ydl wr 0 rfl) (by rw [HZL.out]; omega) (by simp; omega) ?_; intro v' w3 hown' hbel hoth hat; obtain ⟨g',cap',rfl,hg'⟩:=hown'.isRowZ (by simp); obtain ⟨-,-,-,hxc,hcm,hcell,hfr,hset,hoth2,hsz,hbel2⟩:=hown'.atZ; have h1:=hcell k (by simp [HZL.out]); have hgx:(Z ++ [0]).getD k 0=0:=(by rw [zhc,zhq (by rw [HZL.out]; exact zha _),HZL.out]; simp); rw [hgx] at h1; have h2:=hfr k; have HALL:=hid (And.intro hown' (And.intro hbel (And.intro hoth (And.intro hat (And.intro hset (And.intro hoth2 (And.intro hsz (And.intro hbel2 hg')))))))); have hl3:(Z ++ [0]).length=k+1:=(by simp [HZL.out]); rw [hl3] at hxc ⊢; unfold maxLen at hcm; clear hown' hbel hoth hat hcell hfr hset hoth2 hsz hbel2 hgx hg')
       go_roundg (L+2-(k+1))
       case measure=>omega
       case rel =>
        obtain ⟨z1,z2,z3,z4,z5,z6,z7,z8,z9,z10⟩:=HR.out
        obtain ⟨y1,y2,y3,y4,y5,y6,y7,y8,y9⟩:=HALL.out
        have hs:=y5 k 1 (by simp [HZL.out])
        have hset2:(Z ++ [0]).set k 1=Z ++ [1]:=by
         rw [zi9 _ _ (by rw [HZL.out]; exact zha _),HZL.out,zio]
         rfl
        rw [hset2] at hs
        have hl4:((Z ++ [1]) ++ ([]:List Nat)).length=k+1:=by simp [HZL.out]
        have hl5:(Z ++ [0]).length=k+1:=by simp [HZL.out]
        rw [hl5] at hs y4 y5
        have zown:(Value.slice p2 k c2).ownBlock=v.ownBlock\/∀ j,(Value.slice p2 k c2).ownBlock=some j->w.heap.size<=j:=by
         have e:=HN2.out
         rw [e] at z10
         exact z10
        have al:∀ j,j < w.heap.size->(wr.alloc (.cells #[.int .u32 ((0:Nat):Int)] 64)).heap[j]? = wr.heap[j]?:=fun j hj=>yc9 wr _ j (by omega)
        have hgn:(Value.slice (some ⟨g',0,none⟩) (k+1) cap').ownBlock=v.ownBlock\/∀ j,(Value.slice (some ⟨g',0,none⟩) (k+1) cap').ownBlock=some j->w.heap.size<=j:=by
         rcases y4 with e | e
         ·rcases zown with f | f
          ·exact Or.inl (e.trans f)
          ·exact Or.inr (fun j hj=>f j (by rw [← e]; exact hj))
         ·refine Or.inr (fun j hj=>?_)
          rw [e] at hj
          have:=Option.some.inj hj
          simp at this
          omega
        have hall3:∀ j,j < w.heap.size->v.ownBlock≠some j->w3.heap[j]? = w.heap[j]?:=fun j hj hne=>by
         refine (y3 j (by simp; omega) (fun e=>?_)).trans ((al j hj).trans (z7 j hj hne))
         rcases zown with f | f
         ·exact hne (by rw [← f]; exact e)
         ·have:=f j e; omega
        refine ⟨k+1,0,Z ++ [1],[],some ⟨g',0,none⟩,cap',zha _,by omega,by go_num,rfl,by omega,by rw [hl4],by rw [hl4]; exact hxc,by omega,by simp [HZL.out],z2.snoc (by omega),Ok.nil,?_,?_,?_,?_,?_,?_,hgn⟩
        ·have z4':val Z+4294967296 ^ k*(1+0)=val A+val B:=z4
         rw [yci,HZL.out,← z4']
         simp [val]
        ·by_cases hkL:k+1<=L
         ·exact Or.inl (by rw [hl4]; exact hkL)
         ·exact Or.inr ⟨rfl,by rw [hl4]; omega⟩
        ·simpa using hs
        ·intro j hj hne
         refine (y6 k j _ (fun e=>?_)).trans (hall3 j hj hne)
         rcases hgn with f | f
         ·exact hne (by rw [← f,e]; rfl)
         ·have:=f g' rfl; omega
        ·rw [y7]
         have e1:wr.heap.size<=(wr.alloc (.cells #[.int .u32 ((0:Nat):Int)] 64)).heap.size:=by simp
         have e2:=y2.size
         exact zhb z8 (zhb e1 e2)
        ·refine y8 _ _ k _ ?_ y9
         have e1:=z9.alloc hbw (.cells #[.int .u32 ((0:Nat):Int)] 64)
         exact ⟨y2.os.trans e1.os,y2.tape.trans e1.tape,y2.output.trans e1.output,zhb e1.size y2.size,fun i hi=>(y2.block i hi).trans (e1.block i hi)⟩
end Go.Proofs.YtdnindaohpdblaaGreat

namespace Go.Proofs.YtdnindaohpdblaaGreat
open Go Go.RowKit Nt
set_option maxRecDepth 20000
set_option maxHeartbeats 16000000
structure TI (w wr:World) (g:Nat) (es:List El) (k:Nat) (s3 s4:Value) (P M:List Nat):Prop where
 own1:Own wr w.heap.size s3 P
 own2:Own wr w.heap.size s4 M
 ok1:Ok P
 ok2:Ok M
 sum:(val P:Int)-(val M:Int)=tot es k
 len1:P.length<=1073741824+k
 len2:M.length<=1073741824+k
 sep:∀ j,s3.ownBlock=some j->s4.ownBlock=some j->False
 inv:Inv w wr g
 far1:s3.ownBlock≠some g
 far2:s4.ownBlock≠some g
theorem ypy {w:World}{base:Nat}{v:Value}{xs:List Nat}(h:Own w base v xs):∃ p c,v=.slice p xs.length c/\xs.length<=c/\c<=9223372036854775807:=by
 obtain ⟨h1,h2⟩:=h
 rcases h2 with ⟨rfl,h0⟩ | ⟨g,cap,cur,rfl,_,_,hc,hm,_⟩
 ·exact ⟨none,0,by rw [h0],by omega,by omega⟩
 ·exact ⟨_,cap,rfl,hc,by unfold maxLen at hm; omega⟩
theorem ym6 {w:World}{base:Nat}(hb:base<=w.heap.size):Own (w.alloc (.cells #[] 64)) base (.slice (some ⟨w.heap.size,0,none⟩) 0 0) []:=
 World.ownsRow_made w #[] 0 hb (zhs _) rfl
theorem TI.next {w wr w3:World}{g:Nat}{es:List El}{k:Nat}{s3 s4 v':Value}{P M Z:List Nat}{e:El}{a b:Value}(h:TI w wr g es k s3 s4 P M)(he:es[k]? = some e)(hlen:e.n<=1073741824)(neg:Bool)(hneg:e.s=neg)
  (own:Own w3 w.heap.size v' Z) (ok:Ok Z) (hv:val Z=(if neg then val M else val P)+val e.xs) (hl:Z.length<=max (if neg then M.length else P.length) e.n+1)
  (oth:∀ j,j < (wr.alloc (.cells #[a,b] 24)).heap.size->(if neg then s4 else s3).ownBlock≠some j->w3.heap[j]? = (wr.alloc (.cells #[a,b] 24)).heap[j]?)
  (at':v'.ownBlock=(if neg then s4 else s3).ownBlock\/∀ j,v'.ownBlock=some j->(wr.alloc (.cells #[a,b] 24)).heap.size<=j)
  (bel:Below w.heap.size (wr.alloc (.cells #[a,b] 24)) w3):
  TI w w3 g es (k+1) (if neg then s3 else v') (if neg then v' else s4) (if neg then P else Z) (if neg then Z else M):=by
 have hsz:wr.heap.size<=(wr.alloc (.cells #[a,b] 24)).heap.size:=by simp
 have hal:∀ j,j < wr.heap.size->(wr.alloc (.cells #[a,b] 24)).heap[j]? = wr.heap[j]?:=fun j hj=>yc9 wr _ j hj
 have hs:=yxi he
 have gl:=h.inv.lt
 have hB:Below w.heap.size w w3:=by
  have e1:=h.inv.below.alloc (h.inv.below.size) (.cells #[a,b] 24)
  exact ⟨bel.os.trans e1.os,bel.tape.trans e1.tape,bel.output.trans e1.output,zhb e1.size bel.size,fun i hi=>(bel.block i hi).trans (e1.block i hi)⟩
 have box:(if neg then s4 else s3).ownBlock≠some g->Inv w w3 g:=fun hne=>by
  obtain ⟨b0,r0,n0,c0,hx⟩:=h.inv.box
  exact ⟨hB,⟨b0,r0,n0,c0,((oth g (by omega) hne).trans (hal g gl)).trans hx⟩,h.inv.fresh⟩
 cases neg with
 | true =>
  simp only [if_true] at *
  refine ⟨h.own1.otherZ (fun j hj=>?_),own,h.ok1,ok,?_,by have:=h.len1; omega,by have:=h.len2; omega,fun j h1 h2=>?_,box h.far2,h.far1,fun e=>?_⟩
  ·have hj2:=(World.ownsRow.lt h.own1 j hj).2
   exact (oth j (by omega) (fun e=>h.sep j hj e)).trans (hal j hj2)
  ·rw [hs,← h.sum,hv,hneg,zjx]; simp only [sg,if_true]; omega
  ·rcases at' with f | f
   ·exact h.sep j h1 (by rw [← f]; exact h2)
   ·have:=f j h2; have:=(World.ownsRow.lt h.own1 j h1).2; omega
  ·rcases at' with f | f
   ·exact h.far2 (by rw [← f]; exact e)
   ·have:=f g e; omega
 | false =>
  simp only [zj5,if_false] at *
  refine ⟨own,h.own2.otherZ (fun j hj=>?_),ok,h.ok2,?_,by have:=h.len1; omega,by have:=h.len2; omega,fun j h1 h2=>?_,box h.far1,fun e=>?_,h.far2⟩
  ·have hj2:=(World.ownsRow.lt h.own2 j hj).2
   exact (oth j (by omega) (fun e=>h.sep j e hj)).trans (hal j hj2)
  ·rw [hs,← h.sum,hv,hneg,zjx]; simp only [sg,zj5,if_false]; omega
  ·rcases at' with f | f
   ·exact h.sep j (by rw [← f]; exact h1) h2
   ·have:=f j h1; have:=(World.ownsRow.lt h.own2 j h2).2; omega
  ·rcases at' with f | f
   ·exact h.far1 (by rw [← f]; exact e)
   ·have:=f g e; omega
theorem zbq (w:World)(p:Option Addr)(n c:Nat)(es:List El)(h:Ls w p n c es)(hn:n<=1048576)(hB:∀ (i:Nat) (e:El),es[i]? = some e->e.n<=1073741824):
  Calls Tryz.prog 135 #[.slice p n c] w fun e w'=>∃ r cr,e=.returned (.agg #[.bool (ng (tot es n)),.slice r (digs (tot es n).natAbs).length cr])/\Za w w' r cr (tot es n):=by
 obtain ⟨W,g,hg,hW,c00,c01,HI⟩:=enter0 w
 have hnc:=h.cap
 have hcm:=h.max
 unfold maxLen at hcm
 have HL:=hid h
 have HBB:=hid hB
 clear h hB
 obtain ⟨z,hz⟩:∃ z,tot es n=z:=⟨_,rfl⟩
 rw [hz]
 have HZ:=hid hz
 obtain ⟨L,hL⟩:∃ L,(digs z.natAbs).length=L:=⟨_,rfl⟩
 obtain ⟨bz,hbz⟩:∃ bz,ng z=bz:=⟨_,rfl⟩
 rw [hL,hbz]
 have HLZ:=hid hL
 have HBZ:=hid hbz
 clear hz hL hbz
 go_enter Tryz.func135,Tryz.ntmps135
 go_wp2
 obtain ⟨W2,hW2⟩:∃ W2,W2=(W.alloc (.cells #[] 64)).alloc (.cells #[] 64):=⟨_,rfl⟩
 have hgW:=HI.out.lt
 have hwW:=HI.out.below.size
 have HT0:Hid (TI w W2 g es 0 (.slice (some ⟨W.heap.size,0,none⟩) 0 0) (.slice (some ⟨W.heap.size+1,0,none⟩) 0 0) [] []):=by
  have o1:Own (W.alloc (.cells #[] 64)) w.heap.size (.slice (some ⟨W.heap.size,0,none⟩) 0 0) []:=ym6 hwW
  have o2:Own W2 w.heap.size (.slice (some ⟨W.heap.size+1,0,none⟩) 0 0) []:=by
   have:=ym6 (w:=W.alloc (.cells #[] 64)) (base:=w.heap.size) (by simp; omega)
   rw [hW2]
   simpa using this
  have b2:Below w.heap.size w W2:=by rw [hW2]; exact (HI.out.below.alloc hwW _).alloc (by simp; omega) _
  obtain ⟨b0,r0,n0,c0,hx⟩:=HI.out.box
  have hx2:W2.heap[g]? = W.heap[g]?:=by
   rw [hW2,yc9 _ _ g (by simp; omega),yc9 _ _ g hgW]
  refine ⟨by rw [hW2]; exact o1.alloc _,o2,Ok.nil,Ok.nil,rfl,by simp,by simp,fun j h1 h2=>?_,⟨b2,⟨b0,r0,n0,c0,hx2.trans hx⟩,HI.out.fresh⟩,fun e=>?_,fun e=>?_⟩
  ·have e1:=Option.some.inj h1
   have e2:=Option.some.inj h2
   simp at e1 e2
   omega
  ·have e1:=Option.some.inj e
   simp at e1
   omega
  ·have e1:=Option.some.inj e
   simp at e1
   omega
 rw [← hW2]
 clear hW2 c00 c01 hgW hwW
 go_loopg [3,4,11] n (fun gk s3 s4 s11 wr=>∃ (k:Nat) (P M:List Nat) (p1 p2:Option Addr) (c1 c2:Nat),n-k<=gk/\k<=n/\s11=.int .i64 k/\s3=.slice p1 P.length c1/\s4=.slice p2 M.length c2/\P.length<=c1/\c1<=9223372036854775807/\M.length<=c2/\c2<=9223372036854775807/\Hid (TI w wr g es k s3 s4 P M))
 case atStart=>exact ⟨0,[],[],_,_,_,_,zk7 _ _,zhs _,rfl,rfl,rfl,zhs _,by omega,zhs _,by omega,HT0⟩
 case round =>
  obtain ⟨k,P,M,p1,p2,c1,c2,hgk,hk,rfl,rfl,rfl,hp1,hp2,hm1,hm2,HT⟩:=hrel
  obtain ⟨n1,hn1⟩:∃ n1,P.length=n1:=⟨_,rfl⟩
  obtain ⟨n2,hn2⟩:∃ n2,M.length=n2:=⟨_,rfl⟩
  rw [hn1] at HT hp1 ⊢
  rw [hn2] at HT hm1 ⊢
  have HN1:=hid hn1
  have HN2:=hid hn2
  clear hn1 hn2
  by_cases hlt:k < n
  ·obtain ⟨e,he⟩:∃ e,es[k]? = some e:=⟨es[k]'(by rw [HL.out.len]; exact hlt),zhj _⟩
   obtain ⟨b,o,rfl,q1,q2,q3⟩:=HL.out.lie k e he
   have ev:Ev (fun _=>False) w wr:=Ev.of_below HT.out.inv.below
   have d1:=yfr q1 ev
   have d2:=yfr q2 ev
   rw [zhd 2 k] at d1 d2
   have hen:=HBB.out k e he
   have HE:=hid he
   have q3':=yj1 q3 (fun _ _ _ _ h=>h) ev
   have HS:=hid q3'
   have hap:∀ (v:Value) (X:List Nat),Own wr w.heap.size v X->∀ bb oo,e.p=some ⟨bb,oo,none⟩->0 < e.xs.length->v.ownBlock≠some bb:=fun v X ho bb oo hbb hpos hv=>by
    obtain ⟨b3,o3,e3,hc3⟩:=q3.lie 0 hpos
    rw [hbb] at e3
    have h1:=yb3 hc3
    have h2:=(World.ownsRow.lt ho bb hv).1
    cases e3
    simp at h1
    omega
   have HAP:=hid hap
   clear hap q1 q2 q3 q3' ev he
   cases hes:e.s with
   | true =>
    rw [hes] at d1
    have HES:=hid hes
    clear hes
    have PL:=hid (fun (ww:World) (hb:Below wr.heap.size wr ww)=>yym ww w.heap.size (.slice p2 n2 c2) M e.p e.n e.c e.xs (HT.out.own2.below hb) HT.out.ok2 (zhb HT.out.inv.below.size hb.size) (HS.out.below hb) (fun hpos bb oo hbb=>HAP.out _ M HT.out.own2 bb oo hbb (by rw [HS.out.len]; exact hpos)) (by have:=HT.out.len2; omega) (by omega))
    go_wp2_with (go_at_call 143; refine (PL.out _ (yam _ _)).mono ?_; rintro ee w3 ⟨v',Z,rfl,r1,r2,r3,r4,r5,r6,r7⟩; obtain ⟨p5,c5,rfl,l1,l2⟩:=ypy r1; have HR:=hid (And.intro r1 (And.intro r2 (And.intro r3 (And.intro r4 (And.intro r5 (And.intro r6 r7)))))); clear r1 r2 r3 r4 r5 r6 r7)
    go_roundg (n-(k+1))
    case measure=>omega
    case rel =>
     obtain ⟨r1,r2,r3,r4,r5,r6,r7⟩:=HR.out
     have hnx:=HT.out.next (w3:=w3) HE.out hen true HES.out r1 r2 r3 r4 r5 r6 r7
     simp only [if_true] at hnx
     exact ⟨k+1,P,Z,p1,p5,c1,c5,zha _,by omega,by go_num,by rw [HN1.out],rfl,by rw [HN1.out]; exact hp1,hp2,l1,l2,hnx⟩
   | false =>
    rw [hes] at d1
    have HES:=hid hes
    clear hes
    have PL:=hid (fun (ww:World) (hb:Below wr.heap.size wr ww)=>yym ww w.heap.size (.slice p1 n1 c1) P e.p e.n e.c e.xs (HT.out.own1.below hb) HT.out.ok1 (zhb HT.out.inv.below.size hb.size) (HS.out.below hb) (fun hpos bb oo hbb=>HAP.out _ P HT.out.own1 bb oo hbb (by rw [HS.out.len]; exact hpos)) (by have:=HT.out.len1; omega) (by omega))
    go_wp2_with (go_at_call 143; refine (PL.out _ (yam _ _)).mono ?_; rintro ee w3 ⟨v',Z,rfl,r1,r2,r3,r4,r5,r6,r7⟩; obtain ⟨p5,c5,rfl,l1,l2⟩:=ypy r1; have HR:=hid (And.intro r1 (And.intro r2 (And.intro r3 (And.intro r4 (And.intro r5 (And.intro r6 r7)))))); clear r1 r2 r3 r4 r5 r6 r7)
    go_roundg (n-(k+1))
    case measure=>omega
    case rel =>
     obtain ⟨r1,r2,r3,r4,r5,r6,r7⟩:=HR.out
     have hnx:=HT.out.next (w3:=w3) HE.out hen false HES.out r1 r2 r3 r4 r5 r6 r7
     simp only [zj5,if_false] at hnx
     exact ⟨k+1,Z,M,p5,p2,c5,c2,zha _,by omega,by go_num,rfl,by rw [HN2.out],l1,l2,by rw [HN2.out]; exact hm1,hm2,hnx⟩
  ·have hkn:k=n:=by omega
   have hsum:sg false (val P)-sg false (val M)=z:=by rw [← HZ.out,← hkn,← HT.out.sum]; rfl
   have S1:=HT.out.own1.sl HT.out.ok1
   have S2:=HT.out.own2.sl HT.out.ok2
   obtain ⟨pp1,cc1,ee1,S1⟩:=S1
   obtain ⟨pp2,cc2,ee2,S2⟩:=S2
   simp only [Value.slice.injEq] at ee1 ee2
   obtain ⟨rfl,-,rfl⟩:=ee1
   obtain ⟨rfl,-,rfl⟩:=ee2
   rw [HN1.out] at S1
   rw [HN2.out] at S2
   have N:=yzf wr false false p1 p2 n1 c1 n2 c2 P M S1 S2 (by have:=HT.out.len1; have:=HN1.out; omega) (by have:=HT.out.len2; have:=HN2.out; omega)
   rw [hsum,HLZ.out,HBZ.out] at N
   have HN:=hid N
   clear N hsum hkn S1 S2
   go_wp2_with fail
   refine HN.out.mono ?_
   rintro ee w1 ⟨r,cr,rfl,A⟩
   have hI2:=hid (HT.out.inv.call A.below)
   obtain ⟨b3,r3,n3,c3,hx3⟩:=hI2.out.box
   have k0:=hx3.at0
   have k1:=hx3.at1
   have k2:=hx3.frozen 0
   have k3:=hx3.frozen 1
   go_wp2
   have hc0:=(hx3.set bz r L cr).at0
   have hc1:=(hx3.set bz r L cr).at1
   refine bodyPost_ret (by simp [results,Tryz.results135,go_sem,hc0,hc1]; try rfl) rfl ?_
   exact ⟨r,cr,rfl,hI2.out.fin (w1:=w) A.sl (fun b o e=>zhe HT.out.inv.lt (A.fresh b o e)) _ _⟩
def Lc (es:List El)(n:Nat):Pr:=fun v w=>∃ p c fs,v=.slice p n c/\Ls w p n c fs/\fs.length=es.length/\∀ (i:Nat) (f e:El),fs[i]? = some f->es[i]? = some e->f.s=e.s/\f.n=e.n/\f.xs=e.xs
theorem yxh {fs es:List El}(hl:fs.length=es.length)(h:∀ (i:Nat) (f e:El),fs[i]? = some f->es[i]? = some e->f.s=e.s/\f.n=e.n/\f.xs=e.xs)(k:Nat):tot fs k=tot es k:=by
 induction k with
 | zero=>rfl
 | succ k ih =>
  show tot fs k+_=tot es k+_
  rw [ih]
  congr 1
  cases hf:fs[k]? with
  | none =>
   have:es[k]? = none:=by
    rw [List.getElem?_eq_none_iff] at hf ⊢
    omega
   rw [this]
  | some f =>
   have hi:k < fs.length:=(zhh.1 hf).1
   obtain ⟨e,he⟩:∃ e,es[k]? = some e:=⟨es[k]'(by omega),zhj _⟩
   rw [he]
   obtain ⟨a,_,c⟩:=h k f e hf he
   simp only [El.z,a,c]
theorem ywf {es:List El}{n:Nat}(hn:n<=1048576)(hB:∀ (i:Nat) (e:El),es[i]? = some e->e.n<=1073741824):∀ w u,Lc es n u w->CG 135 #[u] w (ZN (tot es n)):=by
 rintro w u ⟨p,c,fs,rfl,hL,hl,hs⟩
 rw [← yxh hl hs n]
 refine (zbq w p n c fs hL hn (fun i f hf=>?_)).mono ?_
 ·have hi:i < fs.length:=(zhh.1 hf).1
  obtain ⟨e,he⟩:∃ e,es[i]? = some e:=⟨es[i]'(by omega),zhj _⟩
  rw [(hs i f e hf he).2.1]
  exact hB i e he
 ·rintro e w' ⟨r,cr,rfl,Z⟩
  exact ye6 Z
theorem zdd {es:List El}{n:Nat}{v:Value}{w:World}(h:Lc es n v w):Has (fun _=>False) w (Lc es n) v:=fun w' e=>by
 obtain ⟨p,c,fs,h1,h2,h3⟩:=h
 exact ⟨p,c,fs,h1,zah h2 e,h3⟩
end Go.Proofs.YtdnindaohpdblaaGreat
