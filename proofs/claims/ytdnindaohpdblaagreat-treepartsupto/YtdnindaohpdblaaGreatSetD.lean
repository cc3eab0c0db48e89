import Derived.Test.YtdnindaohpdblaaGreatSetA
import Derived.Test.YtdnindaohpdblaaGreatShelf
import Derived.Laws.MathBits
import Derived.Lib.BitFns
set_option linter.all false
namespace Go.Proofs.YtdnindaohpdblaaGreat
open Go.RowKit Nt
set_option maxRecDepth 20000
set_option maxHeartbeats 16000000
def Own (w:World)(base:Nat)(v:Value)(xs:List Nat):Prop:=w.ownsRow base 64 1 v xs.length (U xs)
theorem Own.nil (w:World)(base:Nat):Own w base (.slice none 0 0) []:=World.ownsRow_nil _ _ _ _
theorem Own.sl {w:World}{base:Nat}{v:Value}{xs:List Nat}(h:Own w base v xs)(ho:Ok xs):∃ p c,v=.slice p xs.length c/\Sl w p xs.length c xs:=by
 obtain ⟨h1,h2⟩:=h
 rcases h2 with ⟨rfl,h0⟩ | ⟨g,cap,cur,rfl,hb,hg,hc,hm,hs,ht⟩
 ·have:xs=[]:=zib.1 h0
  subst this
  exact ⟨none,0,rfl,Sl.none w⟩
 ·refine ⟨_,_,rfl,rfl,hc,hm,(fun e=>by cases e),ho,fun i hi=>⟨g,0,rfl,?_⟩⟩
  have e:(cur.toList.take (xs.length*1))[i]? = some (.int .u32 (xs.getD i 0)):=by rw [ht]; exact ynx xs i hi
  rw [zjc,if_pos (by omega)] at e
  simp only [World.cell?,hg]
  simpa using e
theorem Own.alloc {w:World}{base:Nat}{v:Value}{xs:List Nat}(h:Own w base v xs)(o:Obj):Own (w.alloc o) base v xs:=World.ownsRow.alloc h o
theorem Own.below {w w':World}{base:Nat}{v:Value}{xs:List Nat}(h:Own w base v xs)(hb:Below w.heap.size w w'):Own w' base v xs:=by
 obtain ⟨h1,h2⟩:=h
 refine ⟨h1,?_⟩
 rcases h2 with h2 | ⟨g,cap,cur,h3,h4,hg,hr⟩
 ·exact Or.inl h2
 ·exact Or.inr ⟨g,cap,cur,h3,h4,(hb.block g (zhf.1 hg).1).trans hg,hr⟩
theorem yds {ops:Array Oper}{rest:List Oper}{o:Oper}{a:Act}{Q:Exit->Act->World->Prop}(w:World)(hgd:o.guard=none)(s x:Operand)
  (ho:o.op=.call { callee:=.builtin .append,args:=#[s,x],argTypes:=#[22,22] })
  (base:Nat) (v:Value) (xs:List Nat) (hs:a.eval s=v) (hown:Own w base v xs)
  (ad:Addr) (m c:Nat) (news:List Nat) (hx:a.eval x=.slice (some ad) m c) (hl:news.length=m) (hnews:Limbs w (some ad) news)
  (hb:xs.length+m<=35184372088832) (hbase:base<=w.heap.size)
  (h:∀ v' w',Own w' base v' (xs ++ news)->Below base w w'->wpList Tryz.prog ops Q rest (a.put o.dst v') w'):wpList Tryz.prog ops Q (o :: rest) a w:=by
 obtain ⟨i0,hi,hz0,hz1,hz2⟩:=info_parts infoU32
 refine wpList_append_own w hgd s x 22 ho base 64 i0 (.int .u32 0) 1 4 Tryz.underlying22 hi hz0 hz1 hz2 rfl (by decide) v xs.length (U xs) hs hown ad m c (U news) hx (by simp [U,hl]) ?_ (ygb news) (by unfold maxLen; omega) (by omega) hbase ?_
 ·intro j u hj
  have hj':j < news.length:=by
   have:=(zhh.1 hj).1
   simpa [U] using this
  rw [ynx news j hj'] at hj
  obtain ⟨b,o',e,hc⟩:=hnews j hj'
  obtain rfl:=Option.some.inj e
  rw [← hj,← hc]
  rw [yc5]
 ·intro v' w' h1 h2 _
  refine h v' w' ?_ ?_
  ·unfold Own
   rw [ygl,zhx,hl]
   exact h1
  ·exact (Below.refl base w).grown h2 hbase (fun k hk=>(World.ownsRow.lt hown k hk).1)
theorem yum (w:World)(a b:Nat)(ha:a<=9223372036854775807)(hb:b<=9223372036854775807):
  Calls Tryz.prog 90 #[.int .i64 a,.int .i64 b] w fun e w'=>e=.returned (.int .i64 (max a b:Nat))/\w'=w:=by
 by_cases h:b < a
 ·go_enter Tryz.func90,Tryz.ntmps90
  go_wp2
  go_ret
  exact ⟨ydf (by omega),rfl⟩
 ·go_enter Tryz.func90,Tryz.ntmps90
  go_wp2
  go_ret
  exact ⟨ydf (by omega),rfl⟩
theorem yey (w:World)(p:Option Addr)(n c:Nat)(xs:List Nat)(h:Sl w p n c xs)(z:Int)(k:Nat)(hz:z=k):
  Calls Tryz.prog 91 #[.slice p n c,.int .i64 z] w fun e w'=>e=.returned (.int .u64 (xs.getD k 0:Nat))/\w'=w:=by
 subst hz
 have HX:=hid h
 have hm:=h.max
 have hc:=h.cap
 unfold maxLen at hm
 clear h
 by_cases hlt:k < n
 ·obtain ⟨b,o,rfl,hcell⟩:=HX.out.lie k (by rw [HX.out.len]; exact hlt)
  obtain ⟨x,hx⟩:∃ x,xs.getD k 0=x:=⟨_,rfl⟩
  rw [hx] at hcell
  rw [hx]
  have hxb:x < 4294967296:=by rw [← hx]; exact HX.out.ok.getD k
  clear hx
  go_enter Tryz.func91,Tryz.ntmps91
  go_wp2
  go_ret
  exact ⟨rfl,rfl⟩
 ·have h0:xs.getD k 0=0:=by rw [zhc,zim (by rw [HX.out.len]; omega)]; rfl
  rw [h0]
  clear h0
  go_enter Tryz.func91,Tryz.ntmps91
  go_wp2
  go_ret
  exact ⟨rfl,rfl⟩
structure Ans (w w':World) (p:Option Addr) (c n:Nat):Prop where
 below:Below w.heap.size w w'
 sl:Sl w' p (Nt.digs n).length c (Nt.digs n)
 fresh:∀ b o,p=some ⟨b,o,none⟩->w.heap.size<=b
theorem Ans.since {w W w':World}{p:Option Addr}{c n:Nat}(hb:Below w.heap.size w W)(r:Ans W w' p c n):Ans w w' p c n:=⟨hb.trans (r.below.mono hb.size),r.sl,fun b o e=>zhb hb.size (r.fresh b o e)⟩
theorem Own.slf {w:World}{base:Nat}{v:Value}{xs:List Nat}(h:Own w base v xs)(ho:Ok xs):∃ p c,v=.slice p xs.length c/\Sl w p xs.length c xs/\∀ b o,p=some ⟨b,o,none⟩->base<=b:=by
 obtain ⟨p,c,rfl,hs⟩:=h.sl ho
 refine ⟨p,c,rfl,hs,?_⟩
 obtain ⟨h1,h2⟩:=h
 rcases h2 with ⟨e,h0⟩ | ⟨g,cap,cur,e,hb,hg,hc,hm,hs,ht⟩
 ·intro b o e2
  rw [e2] at e
  cases e
 ·intro b o e2
  rw [e2] at e
  injection e with e3
  injection e3 with e4
  injection e4 with e5
  omega
theorem ydl (w:World)(x:Nat){z:Int}(hz:z=x):Limbs (w.alloc (.cells #[.int .u32 z] 64)) (some ⟨w.heap.size,0,none⟩) [x]:=by
 subst hz
 exact Blk.limbs (show Blk _ _ [x] from heap_alloc_last _ _)
theorem yd1 (w:World)(p:Option Addr)(n c:Nat)(xs:List Nat)(h:Sl w p n c xs)(hs:n<=35184372088832):
  Calls Tryz.prog 59 #[.slice p n c] w fun e w'=>∃ r cr,e=.returned (.slice r (digs (val xs)).length cr)/\Ans w w' r cr (val xs):=by
 have HX:=hid h.lie
 have HN:=hid h.len
 have HO:=hid h.ok
 have hm:=h.max
 have hc:=h.cap
 unfold maxLen at hm
 clear h
 go_enter Tryz.func59,Tryz.ntmps59
 go_wp2
 go_loop [3] (fun i=>∃ k:Nat,k<=n/\i=.int .i64 k/\Hid (∀ j,k<=j->j < n->xs.getD j 0=0)) (fun i=>(intOf i).toNat)
 case atStart=>exact ⟨n,zha _,rfl,fun j h1 h2=>by omega⟩
 case round =>
  obtain ⟨k,hk,rfl,HZ⟩:=hrel
  have hgo:0 < k/\xs.getD (k-1) 0=0\/xs.take k=digs (val xs):=by
   by_cases h1:0 < k
   ·by_cases h2:xs.getD (k-1) 0=0
    ·exact Or.inl ⟨h1,h2⟩
    ·exact Or.inr (yfk HO.out (by rw [HN.out]; exact hk) (by rw [HN.out]; exact HZ.out) (Or.inr h2))
   ·exact Or.inr (yfk HO.out (by rw [HN.out]; exact hk) (by rw [HN.out]; exact HZ.out) (Or.inl (by omega)))
  by_cases hcase:0 < k/\xs.getD (k-1) 0=0
  ·obtain ⟨hlt,h0⟩:=hcase
   obtain ⟨b,o,rfl,hcell⟩:=HX.out (k-1) (by have:=HN.out; omega)
   rw [h0] at hcell
   have H0:=hid h0
   clear h0 hgo
   go_wp2
   go_round
   case rel =>
    refine ⟨k-1,by omega,by go_num,?_⟩
    intro j h1 h2
    by_cases e:j=k-1
    ·rw [e]; exact H0.out
    ·exact HZ.out j (by omega) h2
   case measure=>simp [intOf]; omega
  ·have HT:Hid (xs.take k=digs (val xs)):=by
    rcases hgo with h1 | h1
    ·exact absurd h1 hcase
    ·exact h1
   have HC:=hid hcase
   clear hgo hcase
   have tail:∀ (Q:Prop),True:=fun _=>trivial
   clear tail
   by_cases hlt:0 < k
   ·obtain ⟨b,o,hpb,hcell⟩:=HX.out (k-1) (by have:=HN.out; omega)
    obtain ⟨x,hx⟩:∃ x,xs.getD (k-1) 0=x:=⟨_,rfl⟩
    have hx0:x≠0:=by intro e; exact HC.out ⟨hlt,by rw [hx,e]⟩
    rw [hx] at hcell
    have hxb:((x:Int) == 0)=false:=beq_eq_false_iff_ne.2 (by omega)
    subst hpb
    clear hx hx0
    go_wp2
    go_loopw [4,5] (fun v i wr=>∃ j:Nat,j<=k/\i=.int .i64 j/\Hid (Own wr w.heap.size v (xs.take j)/\Below w.heap.size w wr)) (fun _ i _=>k-(intOf i).toNat)
    case atStart=>exact ⟨0,zhs _,rfl,Own.nil _ _,Below.refl _ _⟩
    case round =>
     obtain ⟨j,hj,rfl,HJ⟩:=hrel
     by_cases hjk:j < k
     ·obtain ⟨y,hy⟩:∃ y,xs.getD j 0=y:=⟨_,rfl⟩
      obtain ⟨b2,o2,e2,hcj⟩:=(HX.out.below HJ.out.2) j (by have:=HN.out; omega)
      simp only [Option.some.injEq,Addr.mk.injEq] at e2
      obtain ⟨rfl,rfl,_⟩:=e2
      rw [hy] at hcj
      have HY:=hid hy
      clear hy
      go_wp2_with (at_builtin; refine yds _ rfl (.tmp 25) (.tmp 30) rfl w.heap.size _ (xs.take j) rfl (by exact HJ.out.1.alloc _) ⟨wr.heap.size,0,none⟩ 1 1 [y] rfl rfl (ydl wr y rfl) (by simp; omega) (by have:=HJ.out.2.size; simp; omega) ?_; intro v' w1 hown' hbel)
      have R:Hid (Own w1 w.heap.size v' (xs.take (j+1))/\Below w.heap.size w w1):=by
       refine ⟨?_,(HJ.out.2.alloc HJ.out.2.size _).trans hbel⟩
       rw [zjj (by rw [HN.out]; omega)]
       have:xs[j]'(by rw [HN.out]; omega)=y:=by rw [← HY.out]; simp [zhc,show j < xs.length from by rw [HN.out]; omega]
       rw [this]
       exact hown'
      clear hown' hbel
      go_wp2
      go_roundw
      case rel=>exact ⟨j+1,by omega,by go_num,R⟩
      case measure=>simp [intOf]; omega
     ·have hjk':j=k:=by omega
      subst hjk'
      have hd:=HJ.out.1
      rw [HT.out] at hd
      obtain ⟨r,cr,rfl,hsl,hfr⟩:=hd.slf (ybo _)
      have HS:=hid hsl
      have HFR:=hid hfr
      clear hd hsl hfr
      go_wp2
      go_ret
      exact ⟨r,cr,rfl,HJ.out.2,HS.out,HFR.out⟩
   ·have hk0:k=0:=by omega
    subst hk0
    go_wp2
    go_loopw [4,5] (fun v i wr=>v=.slice none 0 0/\i=.int .i64 0/\wr=w) (fun _ _ _=>0)
    case atStart=>exact ⟨rfl,rfl,rfl⟩
    case round =>
     obtain ⟨rfl,rfl,rfl⟩:=hrel
     go_wp2
     go_ret
     have hd:digs (val xs)=[]:=by rw [← HT.out]; simp
     rw [hd]
     exact ⟨none,0,rfl,Below.refl _ _,by rw [hd]; exact Sl.none _,fun b o e=>by cases e⟩
theorem yiw {n k:Nat}(h1:n < 2 ^ k)(h2:k≠0->2 ^ (k-1)<=n):Go.bitLen n=k:=by
 obtain ⟨s1,s2⟩:=bitLen_spec n
 by_cases h0:n=0
 ·subst h0
  have:k=0:=by
   apply Classical.byContradiction
   intro hk
   have:=h2 hk
   have:=zih (k-1)
   omega
  rw [this]; rfl
 have hk:k≠0:=by intro e; subst e; simp at h1; exact h0 h1
 have h3:=h2 hk
 have h4:=s2 h0
 have hb:Go.bitLen n≠0:=by intro e; rw [e] at s1; simp at s1; exact h0 s1
 have a1:k-1 < Go.bitLen n:=(Nat.pow_lt_pow_iff_right (a:=2) (by omega)).1 (zij h3 s1)
 have a2:Go.bitLen n-1 < k:=(Nat.pow_lt_pow_iff_right (a:=2) (by omega)).1 (zij h4 h1)
 omega
theorem yo1:∀ (f x:Nat),x < 2 ^ f->x < 2 ^ Lib.bitLenAux f x/\(Lib.bitLenAux f x≠0->2 ^ (Lib.bitLenAux f x-1)<=x)
 | 0,x,h=>by simp [Lib.bitLenAux] at *; exact h
 | f+1,x,h=>by
  unfold Lib.bitLenAux
  by_cases h0:x=0
  ·simp [h0]
  ·simp only [h0,if_false]
   have ih:=yo1 f (x / 2) (by rw [zhu] at h; omega)
   obtain ⟨i1,i2⟩:=ih
   generalize Lib.bitLenAux f (x / 2)=k at *
   refine ⟨?_,fun _=>?_⟩
   ·rw [zjt,zhu]; omega
   ·rw [Nat.add_sub_cancel_left]
    by_cases hk:k=0
    ·subst hk; simp; omega
    ·have:=i2 hk
     have e:k=(k-1)+1:=by omega
     rw [e,zhu]
     omega
theorem yhu {x:Nat}(h:x < 18446744073709551616):Lib.bitLen x=Go.bitLen x:=by
 have:=yo1 64 x (by omega)
 exact (yiw this.1 this.2).symm
theorem zac (w:World)(x:Nat)(hx:x < 4294967296):
  Calls Tryz.prog 102 #[.int .u32 x] w fun e w'=>e=.returned (.int .i64 (Go.bitLen x:Nat))/\w'=w:=by
 have:=Tryz.bits_Len32 (x:Int) w (by omega) (by omega)
 rw [zju,yhu (by omega)] at this
 exact this
theorem yk1 {x:Nat}(hx:x < 4294967296):Go.bitLen x<=32:=by
 apply Classical.byContradiction
 intro hc
 obtain ⟨s1,s2⟩:=bitLen_spec x
 have h0:x≠0:=by intro e; subst e; exact hc (by simp [Go.bitLen])
 have:=s2 h0
 have h3:2 ^ 32<=2 ^ (Go.bitLen x-1):=zhp (by omega) (by omega)
 omega
theorem yr4 {xs:List Nat}{k t:Nat}(ho:Ok xs)(hk:k < xs.length)(hz:∀ j,k < j->j < xs.length->xs.getD j 0=0)(ht:xs.getD k 0=t)(h0:t≠0):Go.bitLen (val xs)=32*k+Go.bitLen t:=by
 have hv:val xs=val (xs.take k)+4294967296 ^ k*t:=by
  have e:=yck xs (k+1) (by omega)
  have hd:xs.drop (k+1)=List.replicate (xs.length-(k+1)) 0:=by
   apply zjz (by simp)
   intro i h1 h2
   simp only [List.getElem_drop,List.getElem_replicate]
   have hi:k+1+i < xs.length:=by simp at h1; omega
   have:=hz (k+1+i) (by omega) hi
   simpa [hi] using this
  rw [hd,yct,zin,zif,yau xs k hk,ht] at e
  exact e
 have hlow:=yc1 (ho.take k)
 rw [zh6,ziq (by omega)] at hlow
 have hp:(4294967296:Nat) ^ k=2 ^ (32*k):=by rw [zjl]
 rw [hp] at hlow hv
 obtain ⟨s1,s2⟩:=bitLen_spec t
 have s3:=s2 h0
 have hb:Go.bitLen t≠0:=by intro e; rw [e] at s1; simp at s1; exact h0 s1
 apply yiw
 ·rw [hv,zit]
  have:2 ^ (32*k)*(t+1)<=2 ^ (32*k)*2 ^ Go.bitLen t:=zhm _ s1
  rw [zht] at this
  omega
 ·intro _
  rw [hv,show 32*k+Go.bitLen t-1=32*k+(Go.bitLen t-1) from by omega,zit]
  have:2 ^ (32*k)*2 ^ (Go.bitLen t-1)<=2 ^ (32*k)*t:=zhm _ s3
  omega
theorem yr2 (w:World)(p:Option Addr)(n c:Nat)(xs:List Nat)(h:Sl w p n c xs)(hs:n<=288230376151711743):
  Calls Tryz.prog 78 #[.slice p n c] w fun e w'=>e=.returned (.int .i64 (Go.bitLen (val xs):Nat))/\w'=w:=by
 obtain ⟨k,hk⟩:∃ k,(digs (val xs)).length=k:=⟨_,rfl⟩
 have T:=hid (ycz w p n c k xs hk h)
 have S:=h.digs
 rw [hk] at S
 have hkn:k<=n:=by rw [← hk]; exact h.dl
 have HS:=hid S
 have hm:=h.max
 have hc:=h.cap
 unfold maxLen at hm
 by_cases h0:k=0
 ·have hv:val xs=0:=(ya2 _).1 (hk.trans h0)
  rw [hv]
  subst h0
  clear S h hk hv
  go_enter Tryz.func78,Tryz.ntmps78
  go_wp2_with fail
  refine T.out.mono ?_
  rintro e w' ⟨rfl,rfl⟩
  go_wp2
  go_ret
  exact ⟨rfl,rfl⟩
 ·obtain ⟨b,o,hpb,hcell⟩:=S.lie (k-1) (by rw [S.len]; omega)
  obtain ⟨t,ht⟩:∃ t,(digs (val xs)).getD (k-1) 0=t:=⟨_,rfl⟩
  rw [ht] at hcell
  have htb:t < 4294967296:=by rw [← ht]; exact (ybo _).getD _
  have ht0:t≠0:=by
   rcases yhp (val xs) with e | e
   ·rw [e] at hk; simp at hk; omega
   ·rw [hk,ht] at e; exact e
  have hbl:=yr4 (ybo (val xs)) (k:=k-1) (by rw [hk]; omega) (fun j h1 h2=>by rw [hk] at h2; omega) ht ht0
  rw [yaf] at hbl
  have hbt:=yk1 htb
  obtain ⟨bt,hbtq⟩:∃ bt,Go.bitLen t=bt:=⟨_,rfl⟩
  have L1:=hid (zac w t htb)
  rw [hbtq] at L1 hbl hbt
  rw [hbl]
  have hk0:((k:Int) == 0)=false:=beq_eq_false_iff_ne.2 (by omega)
  subst hpb
  clear S h hk ht hbl hbtq ht0
  go_enter Tryz.func78,Tryz.ntmps78
  go_wp2_with fail
  refine T.out.mono ?_
  rintro e w' ⟨rfl,rfl⟩
  go_wp2_with fail
  refine L1.out.mono ?_
  rintro e w' ⟨rfl,rfl⟩
  go_wp2
  go_ret
  exact ⟨ydf (by omega),rfl⟩
end Go.Proofs.YtdnindaohpdblaaGreat
