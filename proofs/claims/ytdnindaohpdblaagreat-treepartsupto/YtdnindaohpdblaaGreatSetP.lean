import Derived.Test.YtdnindaohpdblaaGreatSetC
import Derived.Test.YtdnindaohpdblaaGreatSetB
import Derived.Laws.AppendOwnNone
set_option linter.all false
namespace Go.Proofs.YtdnindaohpdblaaGreat
open Go.RowKit Nt
set_option maxRecDepth 20000
set_option maxHeartbeats 16000000
theorem zem (w:World)(x:Nat)(hx:x<=562949953421312):
  Calls Tryz.prog 105 #[.int .i64 x] w fun e w'=>∃ r cr,e=.returned (.slice r (x / 32+1) cr)/\∃ T,Sl w' r (x / 32+1) cr T/\val T=2 ^ x/\Below w.heap.size w w':=by
 obtain ⟨skip,hskip⟩:∃ skip,x / 32=skip:=⟨_,rfl⟩
 obtain ⟨s,hs⟩:∃ s,x % 32=s:=⟨_,rfl⟩
 obtain ⟨P,hP⟩:∃ P,2 ^ s=P:=⟨_,rfl⟩
 have hsb:s < 32:=by omega
 have hPi:(2:Int) ^ s=(P:Int):=by rw [← hP]; simp
 have hP1:P<=2147483648:=by rw [← hP]; exact zhp (n:=2) (by omega) (show s<=31 by omega)
 have hq:(x:Int) / 32=(skip:Int):=by omega
 have hr:(x:Int) % 32=(s:Int):=by omega
 have hv:Hid (val (List.replicate skip 0 ++ [P])=2 ^ x):=by
  show val (List.replicate skip 0 ++ [P])=2 ^ x
  rw [yb7,yct,zir,ye9,zig,← hP,show (4294967296:Nat)=2 ^ 32 from rfl,← zjl,← zit]
  congr 1
  omega
 have hsk:skip<=17592186044416:=by omega
 rw [hskip]
 clear hskip hs hP
 go_enter Tryz.func105,Tryz.ntmps105
 go_wp2_with fail
 go_loopw [3,4] (fun v i wr=>∃ k:Nat,k<=skip/\i=.int .i64 k/\Hid (Own wr w.heap.size v (List.replicate k 0)/\Below w.heap.size w wr)) (fun _ i _=>skip-(intOf i).toNat)
 case atStart=>exact ⟨0,zhs _,rfl,Own.nil _ _,Below.refl _ _⟩
 case round =>
  obtain ⟨k,hk,rfl,HK⟩:=hrel
  by_cases hlt:k < skip
  ·go_wp2_with (at_builtin; refine yds _ rfl (.tmp 11) (.tmp 12) rfl w.heap.size _ (List.replicate k 0) rfl (HK.out.1.alloc _) ⟨wr.heap.size,0,none⟩ 1 1 [0] rfl rfl (ydl wr 0 rfl) (by simp; omega) (by have:=HK.out.2.size; simp; omega) ?_; intro v' w2 hown' hbel; have HN:=hid hown'; have HNB:=hid ((HK.out.2.alloc HK.out.2.size _).trans hbel); clear hown' hbel)
   go_roundw
   case rel=>exact ⟨k+1,by omega,by go_num,by rw [zji]; exact HN.out,HNB.out⟩
   case measure=>simp [intOf]; omega
  ·have hks:k=skip:=by omega
   subst hks
   go_wp2_with (at_builtin; refine yds _ rfl (.tmp 14) (.tmp 19) rfl w.heap.size _ (List.replicate k 0) rfl (HK.out.1.alloc _) ⟨wr.heap.size,0,none⟩ 1 1 [P] rfl rfl (ydl wr P (by first | rfl | omega | (simp [IntKind.wrap_u32]; omega))) (by simp; omega) (by have:=HK.out.2.size; simp; omega) ?_; intro v' w2 hown' hbel; obtain ⟨r,cr,rfl,hsl⟩:=hown'.sl ((Ok.replicate k).snoc (by omega)); have HSL:=hid hsl; have HNB:=hid ((HK.out.2.alloc HK.out.2.size _).trans hbel); clear hown' hbel hsl)
   go_ret
   have hl:(List.replicate k 0 ++ [P]).length=k+1:=by simp
   have h2:=HSL.out
   rw [hl] at h2
   exact ⟨r,cr,rfl,_,h2,hv.out,HNB.out⟩
theorem zel (w:World)(x:Nat)(hx:x<=1048576):
  Calls Tryz.prog 105 #[.int .i64 x] w fun e w'=>∃ r cr,e=.returned (.slice r (x / 32+1) cr)/\∃ T,Sl w' r (x / 32+1) cr T/\val T=2 ^ x/\Below w.heap.size w w':=
 zem w x (by omega)
theorem yqe (P:Nat):∀ (l:List Nat) (j:Nat),j < l.length->(shrl P l).getD j 0=(l.getD j 0+4294967296*l.getD (j+1) 0) / P % 4294967296
 | [],j,h=>by simp at h
 | x :: r,0,h=>by cases r <;> simp [shrl]
 | x :: r,j+1,h=>by
  have:=yqe P r j (by simpa using h)
  simpa [shrl] using this
theorem zeh (w:World)(p:Option Addr)(n c:Nat)(xs:List Nat)(z:Int)(h:Sl w p n c xs)(hn:n<=35184372088832)(hz:-9223372036854775808<=z)(hz':z<=9223372036854775807):
  Calls Tryz.prog 107 #[.slice p n c,.int .i64 z] w fun e w'=>∃ r cr,e=.returned (.tuple #[.slice r (digs (shrV (val xs) z)).length cr,.int .i64 (shrE z)])/\Ans w w' r cr (shrV (val xs) z):=by
 have HX:=hid h
 have hm:=h.max
 have hc:=h.cap
 unfold maxLen at hm
 by_cases h1:z < 0
 ·have e1:shrV (val xs) z=0:=by simp [shrV,h1]
  have e2:shrE z=1:=by simp [shrE,h1]
  rw [e1,e2]
  clear h e1 e2
  go_enter Tryz.func107,Tryz.ntmps107
  go_wp2_with fail
  go_ret2
  exact ⟨none,0,rfl,Below.refl _ _,yyh _,fun b o e=>by cases e⟩
 have e1:shrV (val xs) z=val xs / 2 ^ z.toNat:=by simp [shrV,h1]
 have e2:shrE z=0:=by simp [shrE,h1]
 rw [e1,e2]
 obtain ⟨x,rfl⟩:=Int.eq_ofNat_of_zero_le (show 0<=z by omega)
 rw [zju]
 obtain ⟨bl,hbl⟩:∃ bl,Go.bitLen (val xs)=bl:=⟨_,rfl⟩
 have HBits:=hid (yud w p n c xs h (by omega))
 rw [hbl] at HBits
 by_cases h2:bl<=x
 ·have hv0:val xs / 2 ^ x=0:=by
   have s1:=(bitLen_spec (val xs)).1
   rw [hbl] at s1
   exact zi8 (zhe s1 (zhp (by omega) h2))
  rw [hv0]
  clear h e1 e2 hbl hv0
  go_enter Tryz.func107,Tryz.ntmps107
  go_wp2_with fail
  refine HBits.out.mono ?_
  rintro e W1 ⟨rfl,rfl⟩
  go_wp2_with fail
  go_ret2
  exact ⟨none,0,rfl,Below.refl _ _,yyh _,fun b o e=>by cases e⟩
 have hbn:bl<=32*n:=by
  rw [← hbl]
  apply Classical.byContradiction
  intro hc
  obtain ⟨s1,s2⟩:=bitLen_spec (val xs)
  have h0:val xs≠0:=by intro e; rw [e] at hc; simp [Go.bitLen] at hc
  have h5:=s2 h0
  have h6:=yc1 h.ok
  rw [h.len] at h6
  have h7:2 ^ (32*n)<=2 ^ (Go.bitLen (val xs)-1):=zhp (by omega) (by omega)
  have h8:(4294967296:Nat) ^ n=2 ^ (32*n):=by rw [zjl]
  omega
 obtain ⟨skip,hskip⟩:∃ skip,x / 32=skip:=⟨_,rfl⟩
 obtain ⟨s,hs⟩:∃ s,x % 32=s:=⟨_,rfl⟩
 have hsb:s < 32:=by omega
 have hq:(x:Int) / 32=(skip:Int):=by omega
 have hr:(x:Int) % 32=(s:Int):=by omega
 have hskn:skip < n:=by omega
 obtain ⟨P,hP⟩:∃ P,2 ^ s=P:=⟨_,rfl⟩
 have hPi:(2:Int) ^ s=(P:Int):=by rw [← hP]; simp
 have hP0:0 < P:=by rw [← hP]; exact zih s
 have HPQ:Hid (4294967296=P*2 ^ (32-s)):=by
  show 4294967296=P*2 ^ (32-s)
  rw [← hP,← zit,show s+(32-s)=32 from by omega]
 have hval:val xs / 2 ^ x=val (xs.drop skip) / P:=by
  rw [ygi h.ok,← hP,show (4294967296:Nat)=2 ^ 32 from rfl,← zjl,zi1,← zit]
  congr 2
  omega
 rw [hval]
 have hx63:x<=9223372036854775807:=by omega
 clear h e1 e2 hbl hval hskip hs hP hz hz'
 go_enter Tryz.func107,Tryz.ntmps107
 go_wp2_with fail
 refine HBits.out.mono ?_
 rintro e W1 ⟨rfl,rfl⟩
 go_wp2_with fail
 go_loopw [6,7] (fun v i wr=>∃ j:Nat,skip<=j/\j<=n/\i=.int .i64 j/\Hid (Own wr W1.heap.size v ((shrl P (xs.drop skip)).take (j-skip))/\Below W1.heap.size W1 wr)) (fun _ i _=>n-(intOf i).toNat)
 case atStart=>exact ⟨skip,zha _,by omega,by first | rfl | (rw [hq]),by rw [zio]; exact Own.nil _ _,Below.refl _ _⟩
 case round =>
  obtain ⟨j,hj0,hj,rfl,HJ⟩:=hrel
  by_cases hlt:j < n
  ·obtain ⟨a,ha⟩:∃ a,xs.getD j 0=a:=⟨_,rfl⟩
   obtain ⟨b,hb⟩:∃ b,xs.getD (j+1) 0=b:=⟨_,rfl⟩
   have hab:a < 4294967296:=by rw [← ha]; exact HX.out.ok.getD _
   have hbb:b < 4294967296:=by rw [← hb]; exact HX.out.ok.getD _
   have L1:=yey wr p n c xs (HX.out.below HJ.out.2) (j:Int) j rfl
   have L2:=yey wr p n c xs (HX.out.below HJ.out.2) ((j:Int)+1) (j+1) (by omega)
   rw [ha] at L1
   rw [hb] at L2
   have HL1:=hid L1
   have HL2:=hid L2
   obtain ⟨A,hA⟩:∃ A,a+4294967296*b=A:=⟨_,rfl⟩
   have hAi:(a:Int)+(b:Int)*4294967296=(A:Int):=by omega
   have hAb:A < 18446744073709551616:=by omega
   obtain ⟨D,hD⟩:∃ D,A / P=D:=⟨_,rfl⟩
   have hDi:(A:Int) / (P:Int)=(D:Int):=by rw [← hD]; simp
   have hDb:D < 18446744073709551616:=by rw [← hD]; exact zij (zia _ _) hAb
   have HD:=hid hD
   have HAE:=hid hA
   have HAK:=hid ha
   have HBK:=hid hb
   have hlen:((shrl P (xs.drop skip)).take (j-skip)).length=j-skip:=by rw [zh6,ydq]; simp; have:=HX.out.len; omega
   clear L1 L2 ha hb hA hD
   go_wp2_with fail
   refine HL1.out.mono ?_
   rintro e w1 ⟨rfl,rfl⟩
   go_wp2_with fail
   refine HL2.out.mono ?_
   rintro e w1 ⟨rfl,rfl⟩
   have HLEN:=hid hlen
   clear hlen
   go_wp2_with (at_builtin; refine yds _ rfl (.tmp 32) (.tmp 40) rfl W1.heap.size _ ((shrl P (xs.drop skip)).take (j-skip)) rfl (HJ.out.1.alloc _) ⟨w1.heap.size,0,none⟩ 1 1 [D % 4294967296] rfl rfl (ydl w1 _ (by first | omega | exact tmod32 D)) (by have:=HLEN.out; omega) (by have:=HJ.out.2.size; simp; omega) ?_; intro v' w2 hown' hbel; have HN:=hid hown'; have HNB:=hid ((HJ.out.2.alloc HJ.out.2.size _).trans hbel); clear hown' hbel)
   go_roundw
   case rel =>
    refine ⟨j+1,by omega,by omega,by go_num,?_,HNB.out⟩
    have hjl:j-skip < (shrl P (xs.drop skip)).length:=by rw [ydq]; simp; have:=HX.out.len; omega
    have hg:=yqe P (xs.drop skip) (j-skip) (by rw [ydq] at hjl; exact hjl)
    have g1:(xs.drop skip).getD (j-skip) 0=a:=by rw [← HAK.out]; simp [zhc,show skip+(j-skip)=j from by omega]
    have g2:(xs.drop skip).getD (j-skip+1) 0=b:=by rw [← HBK.out]; simp [zhc,show skip+(j-skip+1)=j+1 from by omega]
    rw [g1,g2,HAE.out,HD.out] at hg
    rw [show j+1-skip=j-skip+1 from by omega,zjj hjl]
    have ge:(shrl P (xs.drop skip))[j-skip]=D % 4294967296:=by
     rw [← hg]; simp [zhc,hjl]
    rw [ge]
    exact HN.out
   case measure=>simp [intOf]; omega
  ·have hjn:j=n:=by omega
   subst hjn
   have hfull:(shrl P (xs.drop skip)).take (j-skip)=shrl P (xs.drop skip):=zhg (by rw [ydq]; simp; have:=HX.out.len; omega)
   have ho:=HJ.out.1
   rw [hfull] at ho
   obtain ⟨r,cr,rfl,hsl⟩:=ho.sl (yl7 _ _)
   have hl:(shrl P (xs.drop skip)).length=j-skip:=by rw [ydq]; simp; have:=HX.out.len; omega
   rw [hl] at hsl ⊢
   have HSL:=hid hsl
   have HV:=hid (yl8 HPQ.out hP0 _ (HX.out.ok.drop skip))
   clear hfull ho hsl hl
   go_wp2_with fail
   refine (yd1 _ r (j-skip) cr (shrl P (xs.drop skip)) HSL.out (by omega)).mono ?_
   rintro e w3 ⟨r3,c3,rfl,A3⟩
   rw [HV.out] at A3 ⊢
   have HA:=hid (A3.since HJ.out.2)
   clear A3
   go_wp2
   go_ret2
   exact ⟨r3,c3,rfl,HA.out⟩
theorem yw2 (w:World)(p:Option Addr)(n c d:Nat)(xs:List Nat)(h:Sl w p n c xs)(hs:n<=35184372088832)(hd0:0 < d)(hd:d < 4294967296):
  Calls Tryz.prog 104 #[.slice p n c,.int .u64 d] w fun e w'=>∃ r cr,e=.returned (.tuple #[.slice r (digs (val xs / d)).length cr,.int .u64 (val xs % d:Nat)])/\Ans w w' r cr (val xs / d):=by
 have HX:=hid h
 have hm:=h.max
 have hc:=h.cap
 unfold maxLen at hm
 have hdi:((d:Int) == 0)=false:=beq_eq_false_iff_ne.2 (by omega)
 have M1:=ydk n (by omega) w
 obtain ⟨W,hW⟩:∃ W,W=w.alloc (.cells (U (List.replicate n 0)).toArray 64):=⟨_,rfl⟩
 obtain ⟨g,hg⟩:∃ g,g=w.heap.size:=⟨_,rfl⟩
 have HB:=hid (show Below w.heap.size w W from by rw [hW]; exact (Below.refl _ _).alloc (zha _) _)
 have HG:=hid (show Blk W g (List.replicate n 0) from by rw [hW,hg]; exact heap_alloc_last _ _)
 rw [← hW,← hg] at M1
 have HGE:=hid hg
 have HXW:=hid (h.below HB.out)
 have HAP:Hid (Apart p xs g):=h.apart (by rw [hg]; exact zha _)
 clear h hW hg
 go_enter Tryz.func104,Tryz.ntmps104
 go_wp2_with fail
 go_loopw [7,8] (fun v i wr=>∃ k r:Nat,k<=n/\i=.int .i64 ((k:Int)-1)/\r < d/\v=.int .u64 r/\∃ D:List Nat,Hid (D.length=n-k/\Ok D/\val (xs.drop k)=d*val D+r/\Wr W g (List.replicate k 0 ++ D) wr)) (fun _ i _=>(intOf i+1).toNat)
 case atStart =>
  refine ⟨n,0,zha _,rfl,hd0,rfl,[],by simp,Ok.nil,?_,?_⟩
  ·rw [ziu (by rw [HX.out.len]; exact zha _)]; simp [val]
  ·rw [zhz]; exact Wr.refl HG.out
 case round =>
  obtain ⟨k,r,hk,rfl,hr,rfl,D,HD⟩:=hrel
  by_cases hlt:0 < k
  ·obtain ⟨b,o,rfl,hcell⟩:=HD.out.2.2.2.limbs HXW.out.lie HAP.out (k-1) (by rw [HX.out.len]; omega)
   obtain ⟨x,hx⟩:∃ x,xs.getD (k-1) 0=x:=⟨_,rfl⟩
   rw [hx] at hcell
   have hxb:x < 4294967296:=by rw [← hx]; exact HX.out.ok.getD _
   have hrb:r < 4294967296:=by omega
   have hblk:=Wr.blk HG.out HD.out.2.2.2
   have hc1:=hblk.cell (k-1) (by simp; omega)
   have hf1:=hblk.frozen (k-1)
   obtain ⟨v0,hv0⟩:∃ v0,(List.replicate k 0 ++ D).getD (k-1) 0=v0:=⟨_,rfl⟩
   rw [hv0] at hc1
   obtain ⟨B,hB⟩:∃ B,x+4294967296*r=B:=⟨_,rfl⟩
   have hBi:(r:Int)*4294967296+(x:Int)=(B:Int):=by omega
   have hBb:B < 18446744073709551616:=by omega
   obtain ⟨q,hq⟩:∃ q,B / d=q:=⟨_,rfl⟩
   obtain ⟨r',hr'⟩:∃ r',B % d=r':=⟨_,rfl⟩
   have hqi:(B:Int) / (d:Int)=(q:Int):=by rw [← hq]; simp
   have hri:(B:Int).tmod (d:Int)=(r':Int):=by rw [← hr']; exact (Int.ofNat_tmod B d).symm
   have hri2:(B:Int) % (d:Int)=(r':Int):=by rw [← hr']; simp
   have hqb:q < 4294967296:=by
    rw [← hq]
    apply zik
    rw [← hB]
    have:4294967296*(r+1)<=4294967296*d:=zhm _ hr
    rw [zhd d]
    omega
   have hrd:r' < d:=by rw [← hr']; exact zic _ hd0
   have HXK:=hid hx
   have HBE:=hid (show x+4294967296*r=d*q+r' from by rw [hB,← hq,← hr']; exact (zh9 B d).symm)
   clear hx hB hq hr' hblk hv0
   go_wp2
   go_roundw
   case rel =>
    obtain ⟨d1,d2,d3,d4⟩:=HD.out
    have hdr:xs.drop (k-1)=x :: xs.drop k:=by
     rw [yeu xs (k-1) (by rw [HX.out.len]; omega),HXK.out]; congr 2; omega
    refine ⟨k-1,r',by omega,by go_num,hrd,by first | rfl | go_num,q :: D,by simp [d1]; omega,Ok.cons hqb d2,?_,?_⟩
    ·rw [hdr]
     simp only [val]
     exact yml d3 HBE.out
    ·have w1:=Wr.set HG.out d4 (k-1) q
     have s1:=yfy (List.replicate (k-1) 0) [] D [] 0 0 q rfl
     simp only [zir,zh8,zif,zhz,zis] at s1
     have er:List.replicate k 0=List.replicate (k-1) 0 ++ [0]:=by
      rw [← zji,show k-1+1=k from by omega]
     rw [er,zhr,zis,s1] at w1
     exact w1
   case measure=>simp [intOf]; omega
  ·have hk0:k=0:=by omega
   subst hk0
   obtain ⟨d1,d2,d3,d4⟩:=HD.out
   rw [zka] at d3
   rw [zjk,zh8] at d4
   rw [zj4] at d1
   have hq:val D=val xs / d:=by rw [d3,Nat.mul_add_div hd0,zi8 hr,zif]
   have hmd:val xs % d=r:=by rw [d3,Nat.mul_add_mod,zi7 hr]
   have N1:=yd1 wr (some ⟨g,0,none⟩) n n D ⟨d1,zha _,by unfold maxLen; omega,(fun e=>by cases e),d2,(Wr.blk HG.out d4).limbs⟩ hs
   rw [hq] at N1
   have HN1:=hid N1
   have HBE:=hid (d4.below HB.out (by rw [HGE.out]; exact zha _))
   have HMD:=hid hmd
   clear d1 d2 d3 d4 hq hmd N1
   go_wp2_with fail
   refine HN1.out.mono ?_
   rintro e w3 ⟨r3,c3,rfl,A3⟩
   have HA:=hid (A3.since HBE.out)
   clear A3
   go_wp2
   go_ret2
   exact ⟨r3,c3,by rw [HMD.out]; rfl,HA.out⟩
theorem yla {xs:List Nat}(ho:Ok xs)(k:Nat):xs.getD k 0=val xs / 4294967296 ^ k % 4294967296:=by
 rw [← ygi ho]
 by_cases h:k < xs.length
 ·rw [yeu xs k h]
  have:=ho.getD k
  simp only [val]
  omega
 ·rw [ziu (by omega),zhc,zim (by omega)]
  rfl
theorem yxg {X L:Nat}(hL:1<=L)(hX:X < 4294967296 ^ (L+1)):(digs X).getD L 0*4294967296+(digs X).getD (L-1) 0=X / 4294967296 ^ (L-1):=by
 rw [yla (ybo X),yla (ybo X),yaf]
 obtain ⟨l,rfl⟩:∃ l,L=l+1:=⟨L-1,by omega⟩
 have e1:X / 4294967296 ^ (l+1)=X / 4294967296 ^ l / 4294967296:=by rw [zhu,zi1]
 have e2:X / 4294967296 ^ (l+1) < 4294967296:=by
  apply zik
  rw [← zhu]
  exact hX
 rw [zi7 e2,e1,ziw]
 generalize X / 4294967296 ^ l=Y
 omega
theorem rguess {X V L:Nat}(hV:0 < V / 4294967296 ^ (L-1)):X / V<=X / 4294967296 ^ (L-1) / (V / 4294967296 ^ (L-1)):=by
 have hK:0 < 4294967296 ^ (L-1):=zkp (by omega)
 refine yi3 (U:=X) (V:=V) (K:=4294967296 ^ (L-1)) ?_ ?_ hK (zki X V) hV
 ·have:=zh9 X (4294967296 ^ (L-1))
  have h2:=zic X hK
  rw [zhv,ziv,zhd (X / 4294967296 ^ (L-1))]
  omega
 ·exact zki V _
theorem yug {X V u R:Nat}(hu:u < 4294967296)(hR:R < V)(hX:X=u+4294967296*R):X < V*4294967296:=by
 have:4294967296*(R+1)<=4294967296*V:=zhm _ hR
 rw [zht] at this
 rw [zhd V]
 omega
theorem yp7 {g X V:Nat}(hV:0 < V)(h1:X / V<=g)(h2:V*g<=X):g=X / V:=by
 have:g<=X / V:=by rw [zkq hV,zhd]; exact h2
 omega
theorem ynh {g X V:Nat}(hV:0 < V)(h2:X < V*g):X / V < g:=zik h2
theorem yjk {U V k u R X:Nat}{Q:List Nat}(hk:0 < k)(hs:U / 4294967296 ^ k=val Q*V+R)(hu:u=U / 4294967296 ^ (k-1) % 4294967296)(hX:X=u+4294967296*R):
  U / 4294967296 ^ (k-1)=val ((X / V) :: Q)*V+X % V:=by
 obtain ⟨l,rfl⟩:∃ l,k=l+1:=⟨k-1,by omega⟩
 rw [ziw] at *
 rw [zhu,← zi1] at hs
 generalize U / 4294967296 ^ l=Y at *
 have e1:Y=X+4294967296*(val Q*V):=by omega
 have e2:=zh9 X V
 simp only [val]
 rw [zhv,e1,zhk]
 rw [zhd V] at e2
 omega
theorem yuf {A D P V U Q R:Nat}(hU:U=A*P)(hV:V=D*P)(hP:0 < P)(hs:U=Q*V+R)(hl:R < V):Q=A / D/\R / P=A % D:=by
 obtain ⟨q1,q2⟩:=ypn (X:=R) (V:=V) (Q:=Q) (a:=A) (b:=D) (S:=P) (by rw [← hU,hs,zhd V]; omega) hl hV hP
 exact ⟨q1,by rw [q2,Nat.mul_div_cancel _ hP]⟩
theorem zaq (w:World)(x:Nat){z:Int}(hz:z=x):Own (w.alloc (.cells #[.int .u32 z] 64)) w.heap.size (.slice (some ⟨w.heap.size,0,none⟩) 1 1) [x]:=by
 subst hz
 refine ⟨rfl,Or.inr ⟨w.heap.size,1,#[.int .u32 x],rfl,zha _,heap_alloc_last _ _,zha _,by decide,rfl,rfl⟩⟩
theorem yuz (w:World)(x:Nat)(hx:x < 4294967296){z:Int}(hz:z=x):Sl (w.alloc (.cells #[.int .u32 z] 64)) (some ⟨w.heap.size,0,none⟩) 1 1 [x]:=
 ⟨rfl,zha _,by decide,(fun e=>by cases e),Ok.cons hx Ok.nil,ydl w x hz⟩
theorem yry {ops:Array Oper}{rest:List Oper}{o:Oper}{a:Act}{Q:Exit->Act->World->Prop}(w:World)(hgd:o.guard=none)(s x:Operand)
  (ho:o.op=.call { callee:=.builtin .append,args:=#[s,x],argTypes:=#[22,22] })
  (base:Nat) (v:Value) (xs:List Nat) (hs:a.eval s=v) (hown:Own w base v xs)
  (p:Option Addr) (m c:Nat) (news:List Nat) (hx:a.eval x=.slice p m c) (hnews:Sl w p m c news)
  (hb:xs.length+m<=35184372088832) (hbase:base<=w.heap.size)
  (h:∀ v' w',Own w' base v' (xs ++ news)->Below base w w'->wpList Tryz.prog ops Q rest (a.put o.dst v') w'):wpList Tryz.prog ops Q (o :: rest) a w:=by
 cases p with
 | some ad=>exact yds w hgd s x ho base v xs hs hown ad m c news hx hnews.len hnews.lie hb hbase h
 | none =>
  have hc0:=hnews.nil rfl
  have hcap:=hnews.cap
  subst hc0
  have hm0:m=0:=by omega
  subst hm0
  have hn0:news=[]:=zib.1 hnews.len
  subst hn0
  obtain ⟨i0,hi,hz0,hz1,hz2⟩:=info_parts infoU32
  refine wpList_append_own_none hgd s x 22 ho base 64 i0 1 Tryz.underlying22 hi v xs.length (U xs) hs hown hx ?_
  refine h v w ?_ (Below.refl _ _)
  rw [zhz]
  exact hown
theorem yw1 (w:World)(p q:Option Addr)(n c m d:Nat)(xs ys:List Nat)(h:Sl w p n c xs)(h':Sl w q m d ys)(hl:(digs (val ys)).length=1)(hs:n<=35184372088832)(hs':m<=35184372088832):
  Calls Tryz.prog 82 #[.slice p n c,.slice q m d] w fun e w'=>∃ r cr s cs,e=.returned (.tuple #[.slice r (digs (val xs / val ys)).length cr,.slice s (digs (val xs % val ys)).length cs,.int .i64 0])/\Ans w w' r cr (val xs / val ys)/\Ans w w' s cs (val xs % val ys):=by
 obtain ⟨o1,o2⟩:=ypr hl
 have h0:0 < val ys:=by
  apply Classical.byContradiction
  intro hc
  rw [show val ys=0 from by omega] at hl
  simp [yc8] at hl
 have N:=yd1 w q m d ys h' hs'
 rw [hl] at N
 have HN:=hid N
 have HX:=hid h
 obtain ⟨D,hD⟩:∃ D,val ys=D:=⟨_,rfl⟩
 rw [hD] at o1 o2 h0 HN hl ⊢
 have HO:=hid o1
 have HL:=hid hl
 have hrb:val xs % D < 4294967296:=Nat.lt_trans (zic _ h0) o2
 obtain ⟨rr,hrr⟩:∃ rr,val xs % D=rr:=⟨_,rfl⟩
 obtain ⟨qq,hqq⟩:∃ qq,val xs / D=qq:=⟨_,rfl⟩
 have HS:Hid (∀ W:World,Below w.heap.size w W->Calls Tryz.prog 104 #[.slice p n c,.int .u64 D] W fun e w'=>∃ r cr,e=.returned (.tuple #[.slice r (digs qq).length cr,.int .u64 (rr:Nat)])/\Ans W w' r cr qq):=by
  intro W hb
  have:=yw2 W p n c D xs (HX.out.below hb) hs h0 o2
  rw [hrr,hqq] at this
  exact this
 rw [hrr] at hrb
 rw [hrr,hqq]
 clear N h h' o1 hD hl hrr hqq
 go_enter Tryz.func82,Tryz.ntmps82
 go_wp2_with fail
 refine HN.out.mono ?_
 rintro e W1 ⟨r,cr,rfl,A⟩
 have hsl:=A.sl
 rw [HO.out] at hsl
 obtain ⟨b,o,rfl,hcell⟩:=hsl.lie 0 (by simp)
 have hcm:=hsl.max
 have hcc:=hsl.cap
 unfold maxLen at hcm
 simp only [zj6] at hcc
 rw [show ([D]:List Nat).getD 0 0=D from rfl,zif] at hcell
 have HA:=hid A
 clear A hsl
 go_wp2_with fail
 refine (HS.out _ HA.out.below).mono ?_
 rintro e W2 ⟨r2,c2,rfl,A2⟩
 have HA2:=hid A2
 clear A2 hcell
 obtain ⟨L,hL⟩:∃ L,(digs qq).length=L:=⟨_,rfl⟩
 have HLL:=hid hL
 rw [hL]
 clear hL
 go_wp2_with fail
 have N2:=yd1 _ (some ⟨W2.heap.size,0,none⟩) 1 1 [rr] (yuz W2 rr hrb rfl) (by omega)
 rw [ye9] at N2
 refine N2.mono ?_
 rintro e W3 ⟨r3,c3,rfl,A3⟩
 have HA3:=hid A3
 clear A3 N2
 obtain ⟨L3,hL3⟩:∃ L3,(digs rr).length=L3:=⟨_,rfl⟩
 have HLL3:=hid hL3
 rw [hL3]
 clear hL3
 go_wp2
 go_ret3
 have b1:Below w.heap.size w W2:=HA.out.below.trans (HA2.out.below.mono HA.out.below.size)
 have b2:Below W2.heap.size W2 W3:=((Below.refl W2.heap.size W2).alloc (zha _) _).trans (HA3.out.below.mono (by simp))
 refine ⟨r2,c2,r3,c3,by rw [HLL.out,HLL3.out]; rfl,⟨b1.trans (b2.mono b1.size),HA2.out.sl.below b2,fun b o e=>zhb HA.out.below.size (HA2.out.fresh b o e)⟩,⟨b1.trans (b2.mono b1.size),HA3.out.sl,fun b o e=>?_⟩⟩
 have:=HA3.out.fresh b o e
 have:=b1.size
 simp at *
 omega
structure Rd (w wr:World) (g:Nat) (pu pv pr pd:Option Addr) (cu cv cr cd lu L U V D k R:Nat) (Q:List Nat):Prop where
 bel:Below w.heap.size w wr
 bq:Blk wr g (List.replicate k 0 ++ Q)
 su:Sl wr pu lu cu (digs U)
 sv:Sl wr pv L cv (digs V)
 sd:Sl wr pd L cd (digs D)
 sr:Sl wr pr (digs R).length cr (digs R)
 oq:Ok Q
 lq:k+Q.length=lu
 less:R < V
 same:U / 4294967296 ^ k=val Q*V+R
structure Rg (w wr:World) (g:Nat) (pu pv px pp pd:Option Addr) (cu cv cx cp cd lu L U V D k X gs:Nat) (Q:List Nat):Prop where
 bel:Below w.heap.size w wr
 bq:Blk wr g (List.replicate k 0 ++ Q)
 su:Sl wr pu lu cu (digs U)
 sv:Sl wr pv L cv (digs V)
 sd:Sl wr pd L cd (digs D)
 sx:Sl wr px (digs X).length cx (digs X)
 sp:Sl wr pp (digs (V*gs)).length cp (digs (V*gs))
 fx:∀ b o,px=some ⟨b,o,none⟩->g < b
 fp:∀ b o,pp=some ⟨b,o,none⟩->g < b
 ge:X / V<=gs
theorem yw0 {D L bl s:Nat}(hL:(digs D).length=L)(hL0:0 < L)(hbl:Go.bitLen D=bl)(hs:32*L=s+bl):s < 32/\(digs (D*2 ^ s)).length=L/\2147483648<=(digs (D*2 ^ s)).getD (L-1) 0/\D*2 ^ s < 4294967296 ^ L:=by
 have htop:(digs D).getD (L-1) 0≠0:=by
  rcases yhp D with h0 | h0
  ·rw [h0] at hL
   simp at hL
   omega
  ·rw [hL] at h0
   exact h0
 obtain ⟨t,ht⟩:∃ t,(digs D).getD (L-1) 0=t:=⟨_,rfl⟩
 rw [ht] at htop
 have htb:t < 4294967296:=by rw [← ht]; exact (ybo D).getD _
 have e:=yr4 (ybo D) (k:=L-1) (by rw [hL]; omega) (fun j h1 h2=>by rw [hL] at h2; omega) ht htop
 rw [yaf,hbl] at e
 have h32:=yk1 htb
 have h1:Go.bitLen t≠0:=by
  intro e0
  have:=(bitLen_spec t).1
  rw [e0] at this
  simp at this
  exact htop this
 have hst:s+Go.bitLen t=32:=by omega
 have NT:=ypq (ybo D) hL hL0 ht htop hst
 rw [yaf] at NT
 have TH:=yqh hL0 NT.1 NT.2
 exact ⟨by omega,TH.1,TH.2,NT.2⟩
set_option maxRecDepth 20000 in
theorem yuh (w:World)(p q:Option Addr)(n c m d:Nat)(xs ys:List Nat)(h:Sl w p n c xs)(h':Sl w q m d ys)(hl:2<=(digs (val ys)).length)(hs:n+1<=35184372088831)(hs':m+1<=35184372088831):
  Calls Tryz.prog 82 #[.slice p n c,.slice q m d] w fun e w'=>∃ r cr s cs,e=.returned (.tuple #[.slice r (digs (val xs / val ys)).length cr,.slice s (digs (val xs % val ys)).length cs,.int .i64 0])/\Ans w w' r cr (val xs / val ys)/\Ans w w' s cs (val xs % val ys):=by
 obtain ⟨A,hA⟩:∃ A,val xs=A:=⟨_,rfl⟩
 obtain ⟨D,hD⟩:∃ D,val ys=D:=⟨_,rfl⟩
 obtain ⟨L,hL⟩:∃ L,(digs D).length=L:=⟨_,rfl⟩
 obtain ⟨bl,hbl⟩:∃ bl,Go.bitLen D=bl:=⟨_,rfl⟩
 have hdl:=h'.dl
 have N:=yd1 w q m d ys h' (by omega)
 rw [hD,hL] at N hl hdl
 have HN:=hid N
 have hbL:bl<=32*L:=by
  rw [← hbl]
  apply Classical.byContradiction
  intro hc
  obtain ⟨s1,s2⟩:=bitLen_spec D
  have h0:D≠0:=by intro e; rw [e] at hc; simp [Go.bitLen] at hc
  have h5:=s2 h0
  have h6:=ycn D
  rw [hL] at h6
  have h7:2 ^ (32*L)<=2 ^ (Go.bitLen D-1):=zhp (by omega) (by omega)
  have h8:(4294967296:Nat) ^ L=2 ^ (32*L):=by rw [zjl]
  omega
 obtain ⟨s,hsb⟩:∃ s,32*L=s+bl:=⟨32*L-bl,by omega⟩
 have RS:=yw0 hL (by omega) hbl hsb
 have hs32:=RS.1
 have hsi:32*(L:Int)-(bl:Int)=(s:Int):=by omega
 have hL0:((L:Int) == 0)=false:=beq_eq_false_iff_ne.2 (by omega)
 have hL1:((L:Int) == 1)=false:=beq_eq_false_iff_ne.2 (by omega)
 obtain ⟨V,hV⟩:∃ V,D*2 ^ s=V:=⟨_,rfl⟩
 obtain ⟨UU,hU⟩:∃ UU,A*2 ^ s=UU:=⟨_,rfl⟩
 obtain ⟨lu,hlu⟩:∃ lu,(digs UU).length=lu:=⟨_,rfl⟩
 rw [hV] at RS
 have HRS:=hid RS.2
 have hA1:=yc1 h.ok
 rw [h.len,hA] at hA1
 have hLU:lu<=n+1:=by
  rw [← hlu]
  apply ya1
  rw [← hU,zhu]
  exact ykf hA1 hs32
 have HX:=hid h
 have HA:=hid hA
 have HD:=hid hD
 have HL:=hid hL
 have HV:=hid hV
 have HU:=hid hU
 have HLU:=hid hlu
 have HV0:Hid (0 < V):=by
  show 0 < V
  rw [← hV]
  refine Nat.mul_pos ?_ (zih s)
  apply zhw
  intro e
  rw [e] at hL
  simp [yc8] at hL
  omega
 have HBits:Hid (∀ (W:World) (r:Option Addr) (cr:Nat),Sl W r L cr (digs D)->Calls Tryz.prog 106 #[.slice r L cr] W fun e w'=>e=.returned (.int .i64 bl)/\w'=W):=by
  intro W r cr hs
  have:=yud W r L cr (digs D) hs (by omega)
  rw [yaf,hbl] at this
  exact this
 have hs0:s / 32+1=1:=by omega
 have M1:=ydk lu (by omega)
 rw [hA,hD]
 clear N h h' hA hD hL hV hU hlu hA1 RS hbl
 go_enter Tryz.func82,Tryz.ntmps82
 go_wp2_with fail
 refine HN.out.mono ?_
 rintro en W1 ⟨pd,cd,rfl,A1⟩
 have hsl:=A1.sl
 rw [HL.out] at hsl
 have HSD:=hid hsl
 have HB1:=hid A1.below
 have hcm:=hsl.max
 have hcc:=hsl.cap
 unfold maxLen at hcm
 clear A1 hsl HN
 go_wp2_with fail
 refine (HBits.out _ pd cd HSD.out).mono ?_
 rintro en W2 ⟨rfl,rfl⟩
 go_wp2_with fail
 refine (zel _ s (by omega)).mono ?_
 rintro en W3 ⟨pt,ct,rfl,T,t1,t2,t3⟩
 rw [hs0] at t1 ⊢
 have HST:=hid t1
 have HTV:=hid t2
 have HB3:=hid (HB1.out.trans (t3.mono HB1.out.size))
 have HSD3:=hid (HSD.out.below t3)
 clear t1 t2 t3 HSD HB1
 go_wp2_with fail
 refine (yni _ p pt n c 1 ct xs T (HX.out.below HB3.out) HST.out (by omega)).mono ?_
 rintro en W4 ⟨pu,cu,rfl,A4⟩
 rw [HA.out,HTV.out,HU.out] at A4 ⊢
 rw [HLU.out]
 have hsu:=A4.sl
 rw [HLU.out] at hsu
 have HSU:=hid hsu
 have hcum:=hsu.max
 have hcuc:=hsu.cap
 unfold maxLen at hcum
 have HB4:=hid (HB3.out.trans (A4.below.mono HB3.out.size))
 have HSD4:=hid (HSD3.out.below A4.below)
 have HST4:=hid (HST.out.below A4.below)
 clear A4 hsu HSD3 HST HB3
 go_wp2_with fail
 refine (yni _ pd pt L cd 1 ct (digs D) T HSD4.out HST4.out (by omega)).mono ?_
 rintro en W5 ⟨pv,cv,rfl,A5⟩
 rw [yaf,HTV.out,HV.out] at A5 ⊢
 rw [HRS.out.1]
 have hsv:=A5.sl
 rw [HRS.out.1] at hsv
 have HSV:=hid hsv
 have hcvm:=hsv.max
 have hcvc:=hsv.cap
 unfold maxLen at hcvm
 have HB5:=hid (HB4.out.trans (A5.below.mono HB4.out.size))
 have HSD5:=hid (HSD4.out.below A5.below)
 have HSU5:=hid (HSU.out.below A5.below)
 clear A5 hsv HSD4 HST4 HB4 HSU
 obtain ⟨W6,hW6⟩:∃ W6,W6=W5.alloc (.cells (U (List.replicate lu 0)).toArray 64):=⟨_,rfl⟩
 obtain ⟨g,hg⟩:∃ g,g=W5.heap.size:=⟨_,rfl⟩
 have HB6:=hid (show Below W5.heap.size W5 W6 from by rw [hW6]; exact (Below.refl _ _).alloc (zha _) _)
 have HG6:=hid (show Blk W6 g (List.replicate lu 0) from by rw [hW6,hg]; exact heap_alloc_last _ _)
 have M1':=M1 W5
 rw [← hW6,← hg] at M1'
 have HAU:Hid (Apart pu (digs UU) g):=HSU5.out.apart (by rw [hg]; exact zha _)
 have HAV:Hid (Apart pv (digs V) g):=HSV.out.apart (by rw [hg]; exact zha _)
 have HAD:Hid (Apart pd (digs D) g):=HSD5.out.apart (by rw [hg]; exact zha _)
 have HWG:Hid (w.heap.size<=g):=by rw [hg]; exact HB5.out.size
 have HST:Hid (Rd w W6 g pu pv none pd cu cv 0 cd lu L UU V D lu 0 []):=by
  refine ⟨HB5.out.trans (HB6.out.mono HB5.out.size),by simpa using HG6.out,HSU5.out.below HB6.out,HSV.out.below HB6.out,HSD5.out.below HB6.out,Sl.none _,Ok.nil,by simp,HV0.out,?_⟩
  rw [show val ([]:List Nat)=0 from rfl,Nat.zero_mul,zif]
  apply zi8
  have:=ycn UU
  rw [HLU.out] at this
  exact this
 have HSD6:=hid (HSD5.out.below HB6.out)
 clear M1 hW6 hg HB6 HG6 HSU5 HSV HB5 HSD5
 go_wp2_with fail
 go_loopw [14,15] (fun rv i wr=>∃ (k R:Nat) (pr:Option Addr) (cr lr:Nat) (Q:List Nat),k<=lu/\i=.int .i64 ((k:Int)-1)/\rv=.slice pr lr cr/\lr<=L/\Hid ((digs R).length=lr/\Rd w wr g pu pv pr pd cu cv cr cd lu L UU V D k R Q)) (fun _ i _=>(intOf i+1).toNat)
 case atStart=>exact ⟨lu,0,none,0,0,[],zha _,rfl,rfl,zhs _,rfl,HST.out⟩
 case round =>
  obtain ⟨k,R,pr,cr,lr,Q,hk,rfl,rfl,hlr,HI⟩:=hrel
  clear HST
  by_cases hlt:0 < k
  ·obtain ⟨u,hu⟩:∃ u,(digs UU).getD (k-1) 0=u:=⟨_,rfl⟩
   have hub:u < 4294967296:=by rw [← hu]; exact (ybo UU).getD _
   obtain ⟨b1,o1,e1,hcell⟩:=HI.out.2.su.lie (k-1) (by rw [HLU.out]; omega)
   rw [hu] at hcell
   have huu:=yla (ybo UU) (k-1)
   rw [hu,yaf] at huu
   have HUU:=hid huu
   obtain ⟨X,hX⟩:∃ X,u+4294967296*R=X:=⟨_,rfl⟩
   have HXX:=hid hX
   have HXV:Hid (X < V*4294967296):=yug hub HI.out.2.less hX.symm
   have hsr:=HI.out.2.sr
   rw [HI.out.1] at hsr
   have HSR:=hid hsr
   have hcrm:=hsr.max
   have hcrc:=hsr.cap
   unfold maxLen at hcrm
   have HVX:Hid (val ([u] ++ digs R)=X):=by
    show val (u :: digs R)=X
    simp only [val]
    rw [yaf]
    exact hX
   have HOX:Hid (Ok ([u] ++ digs R)):=Ok.cons hub (ybo R)
   have HLX:Hid (([u] ++ digs R).length=lr+1):=by
    show (u :: digs R).length=lr+1
    rw [zie,HI.out.1]
   clear hu huu hX hsr
   subst e1
   go_wp2_with (at_builtin; refine yry _ rfl (.tmp 69) (.tmp 70) rfl wr.heap.size _ [u] rfl (zaq wr u rfl) pr lr cr (digs R) rfl (HSR.out.below ((Below.refl _ _).alloc (zha _) _)) (by simp; omega) (by simp) ?_; intro v' w2 hown' hbel; obtain ⟨r2,c2,rfl,hsl2,hfr2⟩:=hown'.slf HOX.out; have HSL2:=hid hsl2; have HB2:=hid (((Below.refl wr.heap.size wr).alloc (zha _) _).trans hbel); clear hown' hbel hsl2 hfr2)
   have hs2:=HSL2.out
   rw [HLX.out] at hs2
   rw [HI.out.1]
   have N2:=yd1 _ r2 (lr+1) c2 ([u] ++ digs R) hs2 (by omega)
   rw [HVX.out] at N2
   refine N2.mono ?_
   rintro en w3 ⟨px,cx,rfl,A3⟩
   obtain ⟨lx,hlx⟩:∃ lx,(digs X).length=lx:=⟨_,rfl⟩
   have hlxb:lx<=L+1:=by
    rw [← hlx]
    apply ya1
    rw [zhu]
    exact zhe HXV.out (zhn _ (zi4 HRS.out.2.2))
   rw [hlx]
   have hsx:=A3.sl
   rw [hlx] at hsx
   have b03:Below wr.heap.size wr w3:=HB2.out.trans (A3.below.mono HB2.out.size)
   have HLX3:=hid hlx
   have HSXL:=hid hsx
   have hcxm:=hsx.max
   have hcxc:=hsx.cap
   unfold maxLen at hcxm
   have HB3:=hid (HI.out.2.bel.trans (b03.mono HI.out.2.bel.size))
   have HBQ3:=hid (HI.out.2.bq.below b03)
   have HSU3:=hid (HI.out.2.su.below b03)
   have HSV3:=hid (HI.out.2.sv.below b03)
   have HSD3:=hid (HI.out.2.sd.below b03)
   have HSX3:=hid A3.sl
   have HFX:Hid (∀ b o,px=some ⟨b,o,none⟩->g < b):=by
    intro b o e
    have h1:=A3.fresh b o e
    have h2:=HI.out.2.bq.size
    have h3:=HB2.out.size
    omega
   have hlq:k+Q.length=lu:=HI.out.2.lq
   clear A3 b03 hlx N2 hs2 HSL2 HB2 hsx hcell
   have C1:=yid w3 px pv lx cx L cv (digs X) (digs V) HSXL.out HSV3.out
   rw [yaf,yaf] at C1
   by_cases hXV:X < V
   ·rw [show cmpN X V=-1 from by simp [cmpN,hXV]] at C1
    have HC1:=hid C1
    clear C1
    have hlxL:lx<=L:=by
     rw [← HLX3.out,← HRS.out.1]
     exact yag (zi4 hXV)
    have HXLV:=hid hXV
    clear hXV
    go_wp2_with fail
    refine HC1.out.mono ?_
    rintro en wc ⟨rfl,rfl⟩
    go_wp2_with fail
    go_roundw
    case rel =>
     refine ⟨k-1,X,px,cx,lx,0 :: Q,by omega,by go_num,rfl,hlxL,HLX3.out,HB3.out,?_,HSU3.out,HSV3.out,HSD3.out,HSX3.out,Ok.cons (by omega) HI.out.2.oq,?_,HXLV.out,?_⟩
     ·have ek:List.replicate k 0 ++ Q=List.replicate (k-1) 0 ++ (0 :: Q):=by
       obtain ⟨k',rfl⟩:∃ k',k=k'+1:=⟨k-1,by omega⟩
       rw [zji,zhr,zis,ziw]
      rw [← ek]
      exact HBQ3.out
     ·rw [zie]
      omega
     ·have:=yjk hlt HI.out.2.same HUU.out HXX.out.symm
      rw [zi8 HXLV.out,zi7 HXLV.out] at this
      exact this
    case measure=>simp [intOf]; omega
   ·obtain ⟨c0,hc0⟩:∃ c0,cmpN X V=c0:=⟨_,rfl⟩
    have hc00:0<=c0:=by
     rw [← hc0]
     unfold cmpN
     by_cases e1:X=V <;> simp [hXV,e1]
    rw [hc0] at C1
    have HC1:=hid C1
    clear C1 hc0 hXV
    obtain ⟨x1,hx1⟩:∃ x1,(digs X).getD L 0=x1:=⟨_,rfl⟩
    obtain ⟨x0,hx0⟩:∃ x0,(digs X).getD (L-1) 0=x0:=⟨_,rfl⟩
    obtain ⟨v1,hv1⟩:∃ v1,(digs V).getD (L-1) 0=v1:=⟨_,rfl⟩
    have K1:=yey w3 px lx cx (digs X) HSXL.out (L:Int) L rfl
    have K2:=yey w3 px lx cx (digs X) HSXL.out ((L:Int)-1) (L-1) (by omega)
    have K3:=yey w3 pv L cv (digs V) HSV3.out ((L:Int)-1) (L-1) (by omega)
    rw [hx1] at K1
    rw [hx0] at K2
    rw [hv1] at K3
    have HK1:=hid K1
    have HK2:=hid K2
    have HK3:=hid K3
    have hx1b:x1 < 4294967296:=by rw [← hx1]; exact (ybo X).getD _
    have hx0b:x0 < 4294967296:=by rw [← hx0]; exact (ybo X).getD _
    have hv1b:v1 < 4294967296:=by rw [← hv1]; exact (ybo V).getD _
    have hv1t:2147483648<=v1:=by rw [← hv1]; exact HRS.out.2.1
    have hXB:X < 4294967296 ^ (L+1):=by
     rw [zhu]
     exact zhe HXV.out (zhn _ (zi4 HRS.out.2.2))
    have hT:=yxg (X:=X) (L:=L) (by omega) hXB
    rw [hx1,hx0] at hT
    have hv1e:V / 4294967296 ^ (L-1)=v1:=by
     have e0:=yla (ybo V) (L-1)
     rw [hv1,yaf] at e0
     have e1:V / 4294967296 ^ (L-1) < 4294967296:=by
      apply zik
      rw [← zhu,show (L-1).succ=L from by omega]
      exact HRS.out.2.2
     rw [zi7 e1] at e0
     exact e0.symm
    have hG:=rguess (X:=X) (V:=V) (L:=L) (by rw [hv1e]; omega)
    rw [hv1e,← hT] at hG
    obtain ⟨T,hTT⟩:∃ T,x1*4294967296+x0=T:=⟨_,rfl⟩
    have hTi:(x1:Int)*4294967296+(x0:Int)=(T:Int):=by omega
    have hTb:T < 18446744073709551616:=by omega
    rw [hTT] at hG
    obtain ⟨G,hGG⟩:∃ G,T / v1=G:=⟨_,rfl⟩
    have hGi:(T:Int) / (v1:Int)=(G:Int):=by rw [← hGG]; exact (zj1 T v1).symm
    have hGb:G < 18446744073709551616:=by rw [← hGG]; exact zij (zia _ _) hTb
    rw [hGG] at hG
    have hv1i:((v1:Int) == 0)=false:=beq_eq_false_iff_ne.2 (by omega)
    have HGQ:=hid hG
    have HQB:Hid (X / V < 4294967296):=zik HXV.out
    clear K1 K2 K3 hx1 hx0 hv1 hXB hT hv1e hG hTT hGG
    rcases zi0 G 4294967296 with hG4 | hG4
    rotate_left
    ·obtain ⟨gs,hgs⟩:∃ gs:Nat,gs=4294967295:=⟨_,rfl⟩
     have hgb:gs < 4294967296:=by omega
     have HGE:Hid (X / V<=gs):=by have:=HQB.out; show X / V<=gs; omega
     have hG5:(4294967296:Int)<=(G:Int):=by omega
     go_wp2_with fail
     refine HC1.out.mono ?_
     rintro en wc ⟨rfl,rfl⟩
     go_wp2_with fail
     refine HK1.out.mono ?_
     rintro en wc2 ⟨rfl,rfl⟩
     go_wp2_with fail
     refine HK2.out.mono ?_
     rintro en wc2 ⟨rfl,rfl⟩
     go_wp2_with fail
     refine HK3.out.mono ?_
     rintro en w3 ⟨rfl,rfl⟩
     go_wp2_with fail
     clear hG5
     have P1:=yni _ pv (some ⟨w3.heap.size,0,none⟩) L cv 1 1 (digs V) [gs] (HSV3.out.below ((Below.refl w3.heap.size w3).alloc (zha _) _)) (yuz w3 gs hgb (z:=4294967295) (by omega)) (by omega)
     rw [yaf,ye9] at P1
     refine P1.mono ?_
     clear P1
     rintro en w4 ⟨pp,cp,rfl,A4⟩
     obtain ⟨lp,hlp⟩:∃ lp,(digs (V*gs)).length=lp:=⟨_,rfl⟩
     rw [hlp]
     have hlpb:lp<=L+1:=by
      rw [← hlp]
      exact yaq (by rw [HRS.out.1]; exact zha _) (ya1 (by omega))
     have b34:Below w3.heap.size w3 w4:=((Below.refl w3.heap.size w3).alloc (zha _) _).trans (A4.below.mono (by simp))
     have HG4:Hid ((digs (V*gs)).length=lp/\Rg w w4 g (some ⟨b1,o1,none⟩) pv px pp pd cu cv cx cp cd lu L UU V D k X gs Q):=by
      refine ⟨hlp,HB3.out.trans (b34.mono HB3.out.size),HBQ3.out.below b34,HSU3.out.below b34,HSV3.out.below b34,HSD3.out.below b34,HSX3.out.below b34,A4.sl,HFX.out,?_,HGE.out⟩
      intro b o e
      have h1:=A4.fresh b o e
      have h2:=HBQ3.out.size
      simp at h1
      omega
     clear A4 b34 hlp
     go_wp2_with fail
     go_loopw [16,17] (fun gv pv2 wq=>∃ (g2:Nat) (pp:Option Addr) (cp lp:Nat),gv=.int .u64 g2/\pv2=.slice pp lp cp/\g2 < 4294967296/\lp<=L+1/\Hid ((digs (V*g2)).length=lp/\Rg w wq g (some ⟨b1,o1,none⟩) pv px pp pd cu cv cx cp cd lu L UU V D k X g2 Q)) (fun gv _ _=>(intOf gv).toNat)
     case atStart=>exact ⟨gs,pp,cp,lp,by rw [hgs]; rfl,rfl,hgb,hlpb,HG4.out⟩
     case round =>
      clear HG4 hlpb
      obtain ⟨g2,pp,cp,lp,rfl,rfl,hg2,hlp,HJ⟩:=hrel
      have hsp:=HJ.out.2.sp
      rw [HJ.out.1] at hsp
      have HSP:=hid hsp
      have hcpm:=hsp.max
      have hcpc:=hsp.cap
      unfold maxLen at hcpm
      have hsx:=HJ.out.2.sx
      rw [HLX3.out] at hsx
      have HSX:=hid hsx
      clear hsp hsx
      by_cases hgt:X < V*g2
      ·have hg0:0 < g2:=by
        apply zhw
        intro e
        rw [e,zin] at hgt
        omega
       have C2:=yid wr pp px lp cp lx cx (digs (V*g2)) (digs X) HSP.out HSX.out
       rw [yaf,yaf,show cmpN (V*g2) X=1 from by simp [cmpN,show ¬ V*g2 < X from by omega,show ¬ V*g2=X from by omega]] at C2
       have HC2:=hid C2
       have HGT:=hid hgt
       have HLE:Hid (V<=V*g2):=zk0 V hg0
       clear C2 hgt
       go_wp2_with fail
       refine HC2.out.mono ?_
       rintro en wc ⟨rfl,rfl⟩
       go_wp2_with fail
       have L2:=yjm _ pp pv lp cp L cv (digs (V*g2)) (digs V) HSP.out HJ.out.2.sv (by omega) (by rw [yaf,yaf]; exact HLE.out)
       rw [yaf,yaf,show V*g2-V=V*(g2-1) from by rw [Nat.mul_sub,zi2]] at L2
       refine L2.mono ?_
       clear L2
       rintro en w5 ⟨p5,c5,rfl,A5⟩
       obtain ⟨l5,hl5⟩:∃ l5,(digs (V*(g2-1))).length=l5:=⟨_,rfl⟩
       rw [hl5]
       have hl5b:l5<=L+1:=by
        rw [← hl5]
        exact yaq (by rw [HRS.out.1]; exact zha _) (ya1 (by omega))
       have HA5:=hid A5
       have HL5:=hid hl5
       clear A5 hl5
       go_wp2_with fail
       go_roundw
       case rel =>
        have J:=HJ.out.2
        refine ⟨g2-1,p5,c5,l5,by go_num,rfl,by omega,hl5b,HL5.out,J.bel.trans (HA5.out.below.mono J.bel.size),J.bq.below HA5.out.below,J.su.below HA5.out.below,J.sv.below HA5.out.below,J.sd.below HA5.out.below,J.sx.below HA5.out.below,HA5.out.sl,J.fx,?_,?_⟩
        ·intro b o e
         have h1:=HA5.out.fresh b o e
         have h2:=J.bq.size
         omega
        ·have:=ynh HV0.out HGT.out
         omega
       case measure=>simp [intOf]; omega
      ·have hge:g2=X / V:=yp7 HV0.out HJ.out.2.ge (by omega)
       have C2:=yid wr pp px lp cp lx cx (digs (V*g2)) (digs X) HSP.out HSX.out
       rw [yaf,yaf] at C2
       obtain ⟨cq,hcq⟩:∃ cq,cmpN (V*g2) X=cq:=⟨_,rfl⟩
       have hcq0:cq<=0:=by
        rw [← hcq]
        unfold cmpN
        by_cases e1:V*g2 < X
        ·simp [e1]
        ·simp [show V*g2=X from by omega]
       rw [hcq] at C2
       have HC2:=hid C2
       have HGE2:=hid hge
       have HLE:Hid (V*g2<=X):=by show V*g2<=X; omega
       have hbq:=HJ.out.2.bq
       have hc2:=hbq.cell (k-1) (by simp; omega)
       have hf2:=hbq.frozen (k-1)
       obtain ⟨v0,hv0⟩:∃ v0,(List.replicate k 0 ++ Q).getD (k-1) 0=v0:=⟨_,rfl⟩
       rw [hv0] at hc2
       have w1:=Wr.set hbq (Wr.refl hbq) (k-1) g2
       have er:(List.replicate k 0 ++ Q).set (k-1) g2=List.replicate (k-1) 0 ++ (g2 :: Q):=by
        have s1:=yfy (List.replicate (k-1) 0) [] Q [] 0 0 g2 rfl
        simp only [zir,zh8,zif,zhz,zis] at s1
        have ek:List.replicate k 0 ++ Q=List.replicate (k-1) 0 ++ (0 :: Q):=by
         obtain ⟨k',rfl⟩:∃ k',k=k'+1:=⟨k-1,by omega⟩
         rw [zji,zhr,zis,ziw]
        rw [ek,s1]
       rw [er] at w1
       have HW1:=hid w1
       have J:=HJ.out.2
       have HAX:Hid (Apart px (digs X) g):=fun b o e _=>by have:=J.fx b o e; omega
       have HAP:Hid (Apart pp (digs (V*g2)) g):=fun b o e _=>by have:=J.fp b o e; omega
       have HSX2:=hid (show Sl (wr.setCell ⟨g,k-1,none⟩ (.int .u32 g2)) px lx cx (digs X) from ⟨HSX.out.len,HSX.out.cap,HSX.out.max,HSX.out.nil,HSX.out.ok,w1.limbs HSX.out.lie HAX.out⟩)
       have HSP2:=hid (show Sl (wr.setCell ⟨g,k-1,none⟩ (.int .u32 g2)) pp lp cp (digs (V*g2)) from ⟨HSP.out.len,HSP.out.cap,HSP.out.max,HSP.out.nil,HSP.out.ok,w1.limbs HSP.out.lie HAP.out⟩)
       have LS:=yjm (wr.setCell ⟨g,k-1,none⟩ (.int .u32 g2)) px pp lx cx lp cp (digs X) (digs (V*g2)) HSX2.out HSP2.out (by omega) (by rw [yaf,yaf]; exact HLE.out)
       rw [yaf,yaf,show X-V*g2=X % V from by have:=zh9 X V; rw [hge]; omega] at LS
       have HLS:=hid LS
       clear C2 hcq hge hbq hv0 w1 er J LS hgt HSX2 HSP2 HAX HAP
       go_wp2_with fail
       refine HC2.out.mono ?_
       rintro en wc ⟨rfl,rfl⟩
       go_wp2_with fail
       refine HLS.out.mono ?_
       rintro en w5 ⟨p5,c5,rfl,A5⟩
       obtain ⟨l5,hl5⟩:∃ l5,(digs (X % V)).length=l5:=⟨_,rfl⟩
       rw [hl5]
       have hl5b:l5<=L:=by
        rw [← hl5,← HRS.out.1]
        exact yag (zi4 (zic _ HV0.out))
       have HA5:=hid A5
       have HL5:=hid hl5
       clear A5 hl5
       go_wp2_with fail
       go_roundw
       case rel =>
        have J:=HJ.out.2
        have w1:=HW1.out
        have bl5:=HA5.out.below
        have sv':∀ (pz:Option Addr) (lz cz:Nat) (zs:List Nat),Sl wc pz lz cz zs->Apart pz zs g->Sl w5 pz lz cz zs:=fun pz lz cz zs hz hap=>(show Sl _ pz lz cz zs from ⟨hz.len,hz.cap,hz.max,hz.nil,hz.ok,w1.limbs hz.lie hap⟩).below bl5
        have b1:=w1.below J.bel HWG.out
        refine ⟨k-1,X % V,p5,c5,l5,g2 :: Q,by omega,by go_num,rfl,hl5b,HL5.out,b1.trans (bl5.mono b1.size),(Wr.blk J.bq w1).below bl5,sv' _ _ _ _ J.su HAU.out,sv' _ _ _ _ J.sv HAV.out,sv' _ _ _ _ J.sd HAD.out,HA5.out.sl,Ok.cons hg2 HI.out.2.oq,?_,zic _ HV0.out,?_⟩
        ·have:=HI.out.2.lq
         rw [zie]
         omega
        ·rw [HGE2.out]
         exact yjk hlt HI.out.2.same HUU.out HXX.out.symm
       case measure=>simp [intOf]; omega
    ·obtain ⟨gs,rfl⟩:∃ gs:Nat,gs=G:=⟨_,rfl⟩
     have hgb:gs < 4294967296:=by omega
     have HGE:Hid (X / V<=gs):=HGQ.out
     clear hG4
     go_wp2_with fail
     refine HC1.out.mono ?_
     rintro en wc ⟨rfl,rfl⟩
     go_wp2_with fail
     refine HK1.out.mono ?_
     rintro en wc2 ⟨rfl,rfl⟩
     go_wp2_with fail
     refine HK2.out.mono ?_
     rintro en wc2 ⟨rfl,rfl⟩
     go_wp2_with fail
     refine HK3.out.mono ?_
     rintro en w3 ⟨rfl,rfl⟩
     have hG5:((4294967296:Int)<=(gs:Int))=False:=eq_false (by omega)
     go_wp2_with fail
     clear hG5
     have P1:=yni _ pv (some ⟨w3.heap.size,0,none⟩) L cv 1 1 (digs V) [gs] (HSV3.out.below ((Below.refl w3.heap.size w3).alloc (zha _) _)) (yuz w3 gs hgb (z:=(gs:Int)) (by omega)) (by omega)
     rw [yaf,ye9] at P1
     refine P1.mono ?_
     clear P1
     rintro en w4 ⟨pp,cp,rfl,A4⟩
     obtain ⟨lp,hlp⟩:∃ lp,(digs (V*gs)).length=lp:=⟨_,rfl⟩
     rw [hlp]
     have hlpb:lp<=L+1:=by
      rw [← hlp]
      exact yaq (by rw [HRS.out.1]; exact zha _) (ya1 (by omega))
     have b34:Below w3.heap.size w3 w4:=((Below.refl w3.heap.size w3).alloc (zha _) _).trans (A4.below.mono (by simp))
     have HG4:Hid ((digs (V*gs)).length=lp/\Rg w w4 g (some ⟨b1,o1,none⟩) pv px pp pd cu cv cx cp cd lu L UU V D k X gs Q):=by
      refine ⟨hlp,HB3.out.trans (b34.mono HB3.out.size),HBQ3.out.below b34,HSU3.out.below b34,HSV3.out.below b34,HSD3.out.below b34,HSX3.out.below b34,A4.sl,HFX.out,?_,HGE.out⟩
      intro b o e
      have h1:=A4.fresh b o e
      have h2:=HBQ3.out.size
      simp at h1
      omega
     clear A4 b34 hlp
     go_wp2_with fail
     go_loopw [16,17] (fun gv pv2 wq=>∃ (g2:Nat) (pp:Option Addr) (cp lp:Nat),gv=.int .u64 g2/\pv2=.slice pp lp cp/\g2 < 4294967296/\lp<=L+1/\Hid ((digs (V*g2)).length=lp/\Rg w wq g (some ⟨b1,o1,none⟩) pv px pp pd cu cv cx cp cd lu L UU V D k X g2 Q)) (fun gv _ _=>(intOf gv).toNat)
     case atStart=>exact ⟨gs,pp,cp,lp,rfl,rfl,hgb,hlpb,HG4.out⟩
     case round =>
      clear HG4 hlpb
      obtain ⟨g2,pp,cp,lp,rfl,rfl,hg2,hlp,HJ⟩:=hrel
      have hsp:=HJ.out.2.sp
      rw [HJ.out.1] at hsp
      have HSP:=hid hsp
      have hcpm:=hsp.max
      have hcpc:=hsp.cap
      unfold maxLen at hcpm
      have hsx:=HJ.out.2.sx
      rw [HLX3.out] at hsx
      have HSX:=hid hsx
      clear hsp hsx
      by_cases hgt:X < V*g2
      ·have hg0:0 < g2:=by
        apply zhw
        intro e
        rw [e,zin] at hgt
        omega
       have C2:=yid wr pp px lp cp lx cx (digs (V*g2)) (digs X) HSP.out HSX.out
       rw [yaf,yaf,show cmpN (V*g2) X=1 from by simp [cmpN,show ¬ V*g2 < X from by omega,show ¬ V*g2=X from by omega]] at C2
       have HC2:=hid C2
       have HGT:=hid hgt
       have HLE:Hid (V<=V*g2):=zk0 V hg0
       clear C2 hgt
       go_wp2_with fail
       refine HC2.out.mono ?_
       rintro en wc ⟨rfl,rfl⟩
       go_wp2_with fail
       have L2:=yjm _ pp pv lp cp L cv (digs (V*g2)) (digs V) HSP.out HJ.out.2.sv (by omega) (by rw [yaf,yaf]; exact HLE.out)
       rw [yaf,yaf,show V*g2-V=V*(g2-1) from by rw [Nat.mul_sub,zi2]] at L2
       refine L2.mono ?_
       clear L2
       rintro en w5 ⟨p5,c5,rfl,A5⟩
       obtain ⟨l5,hl5⟩:∃ l5,(digs (V*(g2-1))).length=l5:=⟨_,rfl⟩
       rw [hl5]
       have hl5b:l5<=L+1:=by
        rw [← hl5]
        exact yaq (by rw [HRS.out.1]; exact zha _) (ya1 (by omega))
       have HA5:=hid A5
       have HL5:=hid hl5
       clear A5 hl5
       go_wp2_with fail
       go_roundw
       case rel =>
        have J:=HJ.out.2
        refine ⟨g2-1,p5,c5,l5,by go_num,rfl,by omega,hl5b,HL5.out,J.bel.trans (HA5.out.below.mono J.bel.size),J.bq.below HA5.out.below,J.su.below HA5.out.below,J.sv.below HA5.out.below,J.sd.below HA5.out.below,J.sx.below HA5.out.below,HA5.out.sl,J.fx,?_,?_⟩
        ·intro b o e
         have h1:=HA5.out.fresh b o e
         have h2:=J.bq.size
         omega
        ·have:=ynh HV0.out HGT.out
         omega
       case measure=>simp [intOf]; omega
      ·have hge:g2=X / V:=yp7 HV0.out HJ.out.2.ge (by omega)
       have C2:=yid wr pp px lp cp lx cx (digs (V*g2)) (digs X) HSP.out HSX.out
       rw [yaf,yaf] at C2
       obtain ⟨cq,hcq⟩:∃ cq,cmpN (V*g2) X=cq:=⟨_,rfl⟩
       have hcq0:cq<=0:=by
        rw [← hcq]
        unfold cmpN
        by_cases e1:V*g2 < X
        ·simp [e1]
        ·simp [show V*g2=X from by omega]
       rw [hcq] at C2
       have HC2:=hid C2
       have HGE2:=hid hge
       have HLE:Hid (V*g2<=X):=by show V*g2<=X; omega
       have hbq:=HJ.out.2.bq
       have hc2:=hbq.cell (k-1) (by simp; omega)
       have hf2:=hbq.frozen (k-1)
       obtain ⟨v0,hv0⟩:∃ v0,(List.replicate k 0 ++ Q).getD (k-1) 0=v0:=⟨_,rfl⟩
       rw [hv0] at hc2
       have w1:=Wr.set hbq (Wr.refl hbq) (k-1) g2
       have er:(List.replicate k 0 ++ Q).set (k-1) g2=List.replicate (k-1) 0 ++ (g2 :: Q):=by
        have s1:=yfy (List.replicate (k-1) 0) [] Q [] 0 0 g2 rfl
        simp only [zir,zh8,zif,zhz,zis] at s1
        have ek:List.replicate k 0 ++ Q=List.replicate (k-1) 0 ++ (0 :: Q):=by
         obtain ⟨k',rfl⟩:∃ k',k=k'+1:=⟨k-1,by omega⟩
         rw [zji,zhr,zis,ziw]
        rw [ek,s1]
       rw [er] at w1
       have HW1:=hid w1
       have J:=HJ.out.2
       have HAX:Hid (Apart px (digs X) g):=fun b o e _=>by have:=J.fx b o e; omega
       have HAP:Hid (Apart pp (digs (V*g2)) g):=fun b o e _=>by have:=J.fp b o e; omega
       have HSX2:=hid (show Sl (wr.setCell ⟨g,k-1,none⟩ (.int .u32 g2)) px lx cx (digs X) from ⟨HSX.out.len,HSX.out.cap,HSX.out.max,HSX.out.nil,HSX.out.ok,w1.limbs HSX.out.lie HAX.out⟩)
       have HSP2:=hid (show Sl (wr.setCell ⟨g,k-1,none⟩ (.int .u32 g2)) pp lp cp (digs (V*g2)) from ⟨HSP.out.len,HSP.out.cap,HSP.out.max,HSP.out.nil,HSP.out.ok,w1.limbs HSP.out.lie HAP.out⟩)
       have LS:=yjm (wr.setCell ⟨g,k-1,none⟩ (.int .u32 g2)) px pp lx cx lp cp (digs X) (digs (V*g2)) HSX2.out HSP2.out (by omega) (by rw [yaf,yaf]; exact HLE.out)
       rw [yaf,yaf,show X-V*g2=X % V from by have:=zh9 X V; rw [hge]; omega] at LS
       have HLS:=hid LS
       clear C2 hcq hge hbq hv0 w1 er J LS hgt HSX2 HSP2 HAX HAP
       go_wp2_with fail
       refine HC2.out.mono ?_
       rintro en wc ⟨rfl,rfl⟩
       go_wp2_with fail
       refine HLS.out.mono ?_
       rintro en w5 ⟨p5,c5,rfl,A5⟩
       obtain ⟨l5,hl5⟩:∃ l5,(digs (X % V)).length=l5:=⟨_,rfl⟩
       rw [hl5]
       have hl5b:l5<=L:=by
        rw [← hl5,← HRS.out.1]
        exact yag (zi4 (zic _ HV0.out))
       have HA5:=hid A5
       have HL5:=hid hl5
       clear A5 hl5
       go_wp2_with fail
       go_roundw
       case rel =>
        have J:=HJ.out.2
        have w1:=HW1.out
        have bl5:=HA5.out.below
        have sv':∀ (pz:Option Addr) (lz cz:Nat) (zs:List Nat),Sl wc pz lz cz zs->Apart pz zs g->Sl w5 pz lz cz zs:=fun pz lz cz zs hz hap=>(show Sl _ pz lz cz zs from ⟨hz.len,hz.cap,hz.max,hz.nil,hz.ok,w1.limbs hz.lie hap⟩).below bl5
        have b1:=w1.below J.bel HWG.out
        refine ⟨k-1,X % V,p5,c5,l5,g2 :: Q,by omega,by go_num,rfl,hl5b,HL5.out,b1.trans (bl5.mono b1.size),(Wr.blk J.bq w1).below bl5,sv' _ _ _ _ J.su HAU.out,sv' _ _ _ _ J.sv HAV.out,sv' _ _ _ _ J.sd HAD.out,HA5.out.sl,Ok.cons hg2 HI.out.2.oq,?_,zic _ HV0.out,?_⟩
        ·have:=HI.out.2.lq
         rw [zie]
         omega
        ·rw [HGE2.out]
         exact yjk hlt HI.out.2.same HUU.out HXX.out.symm
       case measure=>simp [intOf]; omega
  ·have hk0:k=0:=by omega
   subst hk0
   have same:=HI.out.2.same
   rw [Nat.pow_zero,Nat.div_one] at same
   obtain ⟨q1,q2⟩:=yuf HU.out.symm HV.out.symm (zih s) same HI.out.2.less
   have hsr:=HI.out.2.sr
   rw [HI.out.1] at hsr
   have SH:=zeh wr pr lr cr (digs R) (s:Int) hsr (by omega) (by omega) (by omega)
   have e1:shrV R (s:Int)=A % D:=by
    rw [← q2]
    have hs0':¬ ((s:Int) < 0):=by omega
    simp [shrV,hs0']
   have e2:shrE (s:Int)=0:=by
    have hs0':¬ ((s:Int) < 0):=by omega
    simp [shrE,hs0']
   rw [yaf,e1,e2] at SH
   have HSH:=hid SH
   have bq:=HI.out.2.bq
   rw [zjk,zh8] at bq
   have SQ:Sl wr (some ⟨g,0,none⟩) lu lu Q:=⟨by have:=HI.out.2.lq; omega,zha _,by unfold maxLen; omega,(fun e=>by cases e),HI.out.2.oq,bq.limbs⟩
   have HSQ:=hid SQ
   have HQ1:=hid q1
   obtain ⟨lz,hlz⟩:∃ lz,(digs (A % D)).length=lz:=⟨_,rfl⟩
   rw [hlz] at HSH
   have HLZ:=hid hlz
   clear same q1 q2 hsr SH e1 e2 bq SQ hlz
   go_wp2_with fail
   refine (HBits.out _ pd cd HI.out.2.sd).mono ?_
   rintro en wc ⟨rfl,rfl⟩
   go_wp2_with fail
   refine HSH.out.mono ?_
   rintro en w7 ⟨r7,c7,rfl,A7⟩
   have HS7:=hid A7
   have HB7:=hid A7.below
   clear A7
   go_wp2_with fail
   have N3:=yd1 w7 (some ⟨g,0,none⟩) lu lu Q (HSQ.out.below HB7.out) (by omega)
   rw [HQ1.out] at N3
   refine N3.mono ?_
   rintro en w8 ⟨r8,c8,rfl,A8⟩
   obtain ⟨ly,hly⟩:∃ ly,(digs (A / D)).length=ly:=⟨_,rfl⟩
   rw [hly]
   have HLY:=hid hly
   have HA8:=hid A8
   clear A8 hly N3
   go_wp2_with fail
   go_ret3
   have b1:=HI.out.2.bel.trans (HB7.out.mono HI.out.2.bel.size)
   rw [HLZ.out,HLY.out]
   refine ⟨r8,c8,r7,c7,rfl,HA8.out.since b1,b1.trans (HA8.out.below.mono b1.size),?_,fun b o e=>zhb HI.out.2.bel.size (HS7.out.fresh b o e)⟩
   exact HS7.out.sl.below HA8.out.below
theorem yue (w:World)(p q:Option Addr)(n c m d:Nat)(xs ys:List Nat)(h:Sl w p n c xs)(h':Sl w q m d ys)(hy:val ys≠0)(hs:n+1<=35184372088831)(hs':m+1<=35184372088831):
  Calls Tryz.prog 82 #[.slice p n c,.slice q m d] w fun e w'=>∃ r cr s cs,e=.returned (.tuple #[.slice r (digs (val xs / val ys)).length cr,.slice s (digs (val xs % val ys)).length cs,.int .i64 0])/\Ans w w' r cr (val xs / val ys)/\Ans w w' s cs (val xs % val ys):=by
 have h0:(digs (val ys)).length≠0:=fun e=>hy ((ya2 _).1 e)
 by_cases h1:(digs (val ys)).length=1
 ·exact yw1 w p q n c m d xs ys h h' h1 (by omega) (by omega)
 exact yuh w p q n c m d xs ys h h' (by omega) hs hs'
end Go.Proofs.YtdnindaohpdblaaGreat
