import Derived.Test.YtdnindaohpdblaaGreatSetU
set_option linter.all false
namespace Go.Proofs.YtdnindaohpdblaaGreat
open Go.RowKit Nt
set_option maxRecDepth 20000
set_option maxHeartbeats 16000000
theorem yml {x V D d r q r':Nat}(h:V=d*D+r)(hq:x+4294967296*r=d*q+r'):x+4294967296*V=d*(q+4294967296*D)+r':=by
 rw [h,zht,zht]
 have:4294967296*(d*D)=d*(4294967296*D):=by rw [← zhk,zhd 4294967296 d,zhk]
 omega
theorem yq4 (w:World)(g:Nat)(A post:List Nat)(n c d:Nat)(hn:A.length=n)(hnc:n<=c)(hcm:c<=maxLen)(hg:Blk w g (A ++ post))(hA:Ok A)(hd0:0 < d)(hd:d < 4294967296):
  Calls Tryz.prog 132 #[.slice (some ⟨g,0,none⟩) n c,.int .u32 d] w fun e w' =>
   ∃ Z:List Nat,Z.length=n/\Ok Z/\val Z=val A / d/\e=.returned (.int .u32 (val A % d:Nat))/\Wr w g (Z ++ post) w':=by
 have HN:=hid hn
 have HG:=hid hg
 have HA:=hid hA
 unfold maxLen at hcm
 have hdi:((d:Int) == 0)=false:=beq_eq_false_iff_ne.2 (by omega)
 clear hn hg hA
 go_enter Tryz.func132,Tryz.ntmps132
 go_wp2_with fail
 go_loopw [5,10] (fun v i wr=>∃ k r:Nat,k<=n/\i=.int .i64 k/\r < d/\v=.int .u64 r/\∃ D:List Nat,Hid (D.length=k/\Ok D/\val (A.drop (n-k))=d*val D+r/\Wr w g (A.take (n-k) ++ D ++ post) wr)) (fun _ i _=>n-(intOf i).toNat)
 case atStart =>
  refine ⟨0,0,zhs _,rfl,hd0,rfl,[],rfl,Ok.nil,?_,?_⟩
  ·rw [zj4,ziu (by rw [HN.out]; exact zha _)]; simp [val]
  ·rw [zj4,zhg (by rw [HN.out]; exact zha _),zhz]; exact Wr.refl HG.out
 case round =>
  obtain ⟨k,r,hk,rfl,hr,rfl,D,HD⟩:=hrel
  by_cases hlt:k < n
  ·have hblk:=Wr.blk HG.out HD.out.2.2.2
   have hlt2:n-1-k < (A.take (n-k) ++ D ++ post).length:=by have:=HN.out; have:=HD.out.1; simp; omega
   have hc1:=hblk.cell (n-1-k) hlt2
   have hf1:=hblk.frozen (n-1-k)
   have hgx:(A.take (n-k) ++ D ++ post).getD (n-1-k) 0=A.getD (n-1-k) 0:=by
    have h1:n-1-k < (A.take (n-k)).length:=by have:=HN.out; simp; omega
    rw [zhc,zhc,zhr,zh1 h1,zjc,if_pos (by omega)]
   rw [hgx] at hc1
   obtain ⟨x,hx⟩:∃ x,A.getD (n-1-k) 0=x:=⟨_,rfl⟩
   rw [hx] at hc1
   have hxb:x < 4294967296:=by rw [← hx]; exact HA.out.getD _
   have hrb:r < 4294967296:=by omega
   obtain ⟨B,hB⟩:∃ B,x+4294967296*r=B:=⟨_,rfl⟩
   have hor:bits .or .u64 ((r:Int)*4294967296) (x:Int)=(B:Int):=by rw [or64' x r hxb hrb,hB]
   have hBb:B < 18446744073709551616:=by omega
   obtain ⟨q,hq⟩:∃ q,B / d=q:=⟨_,rfl⟩
   obtain ⟨r',hr'⟩:∃ r',B % d=r':=⟨_,rfl⟩
   have hqi:(B:Int) / (d:Int)=(q:Int):=by rw [← hq]; simp
   have hri:(B:Int).tmod (d:Int)=(r':Int):=by rw [← hr']; exact (Int.ofNat_tmod B d).symm
   have hri2:(B:Int) % (d:Int)=(r':Int):=by rw [← hr']; simp
   have hqb:q < 4294967296:=by
    rw [← hq]
    apply zik
    rw [← hB]
    have:4294967296*(r+1)<=4294967296*d:=zhm _ hr
    rw [zhd d]
    omega
   have hrd:r' < d:=by rw [← hr']; exact zic _ hd0
   have HXK:=hid hx
   have HBE:=hid (show x+4294967296*r=d*q+r' from by rw [hB,← hq,← hr']; exact (zh9 B d).symm)
   clear hx hB hq hr' hgx hlt2 hblk
   go_wp2
   go_roundw
   case rel =>
    obtain ⟨d1,d2,d3,d4⟩:=HD.out
    have hidx:n-(k+1)=n-1-k:=by omega
    have hdr:A.drop (n-1-k)=x :: A.drop (n-k):=by
     rw [yeu A (n-1-k) (by rw [HN.out]; omega),HXK.out]; congr 2; omega
    refine ⟨k+1,r',by omega,by go_num,hrd,by first | rfl | go_num,q :: D,by simp [d1],Ok.cons hqb d2,?_,?_⟩
    ·rw [hidx,hdr]
     simp only [val]
     exact yml d3 HBE.out
    ·have w1:=Wr.set HG.out d4 (n-1-k) q
     have et:A.take (n-k)=A.take (n-1-k) ++ [x]:=by
      rw [show n-k=n-1-k+1 from by omega,zjj (by rw [HN.out]; omega)]
      have:A[n-1-k]'(by rw [HN.out]; omega)=x:=by rw [← HXK.out]; simp [zhc,show n-1-k < A.length from by rw [HN.out]; omega]
      rw [this]
     have s1:=yfy (A.take (n-1-k)) [] D post 0 x q rfl
     have el:(A.take (n-1-k)).length=n-1-k:=by simp; have:=HN.out; omega
     rw [el] at s1
     simp only [zh8,zif] at s1
     rw [et,zhr (A.take (n-1-k)) [x] D,zis,s1] at w1
     rw [hidx]
     simpa using w1
   case measure=>simp [intOf]; omega
  ·obtain ⟨d1,d2,d3,d4⟩:=HD.out
   have hkn:k=n:=by omega
   rw [hkn,zio,zka] at d3
   rw [hkn,zio,zkx,zh8] at d4
   rw [hkn] at d1
   have hq:val D=val A / d:=by rw [d3,Nat.mul_add_div hd0,zi8 hr,zif]
   have hm:val A % d=r:=by rw [d3,Nat.mul_add_mod,zi7 hr]
   have HF:=hid (And.intro d1 (And.intro d2 (And.intro hq (And.intro hm d4))))
   clear d1 d2 d3 d4 hkn hq hm
   go_wp2
   go_ret
   obtain ⟨f1,f2,f3,f4,f5⟩:=HF.out
   exact ⟨D,f1,f2,f3,by rw [f4]; rfl,f5⟩
theorem ynt {P VZ VV VA f x y z c c':Nat}(h:VZ+VV*f=VA+P*c)(hs:z+y*f+c=x+4294967296*c'):VZ+P*z+(VV+P*y)*f=VA+P*x+P*4294967296*c':=by
 have h2:P*(z+y*f+c)=P*(x+4294967296*c'):=by rw [hs]
 rw [zht,zht,zht,← zhk,← zhk] at h2
 rw [zhv]
 omega
theorem yow (w:World)(g:Nat)(pre A post:List Nat)(n c:Nat)(q:Option Addr)(m d:Nat)(B:List Nat)(f:Nat)(hn:A.length=n)(hnc:n<=c)(hcm:c<=maxLen)
  (hg:Blk w g (pre ++ A ++ post)) (hA:Ok A) (hB:Sl w q m d B) (hq:Apart q B g) (hmn:m+1=n) (hf:f < 4294967296):
  Calls Tryz.prog 147 #[.slice (some ⟨g,pre.length,none⟩) n c,.slice q m d,.int .u32 f] w fun e w' =>
   ∃ (Z:List Nat) (bo:Nat),Z.length=n/\Ok Z/\bo<=1/\val Z+val B*f=val A+4294967296 ^ n*bo/\e=.returned (.bool (bo != 0))/\Wr w g (pre ++ Z ++ post) w':=by
 subst hmn
 obtain ⟨o,ho⟩:∃ o,pre.length=o:=⟨_,rfl⟩
 rw [ho]
 have HN:=hid hn
 have HG:=hid hg
 have HA:=hid hA
 have HB:=hid hB
 have HQ:=hid hq
 have HO:=hid ho
 unfold maxLen at hcm
 have hdm:=hB.max
 unfold maxLen at hdm
 have hmd:=hB.cap
 clear hn hg hA hB hq ho
 go_enter Tryz.func147,Tryz.ntmps147
 go_wp2
 go_loopw [7,8,14] (fun cv bv i wr=>∃ (k cy br:Nat),k<=m/\i=.int .i64 k/\cy < 4294967296/\br<=1/\cv=.int .u64 cy/\bv=.int .u64 br/\∃ Z:List Nat,Hid (Z.length=k/\Ok Z/\val Z+val (B.take k)*f=val (A.take k)+4294967296 ^ k*(cy+br)/\Wr w g (pre ++ (Z ++ A.drop k) ++ post) wr)) (fun _ _ i _=>m-(intOf i).toNat)
 case atStart=>exact ⟨0,0,0,zhs _,rfl,by omega,by omega,rfl,rfl,[],rfl,Ok.nil,by simp [val],by simpa using Wr.refl HG.out⟩
 case round =>
  obtain ⟨k,cy,br,hk,rfl,hcy,hbr,rfl,rfl,Z,HZ⟩:=hrel
  by_cases hlt:k < m
  ·have hBl:=HB.out.lie
   obtain ⟨b,o',rfl,hcell'⟩:=(HZ.out.2.2.2.limbs hBl HQ.out) k (by have:=HB.out.len; omega)
   have hcell:=(Wr.blk HG.out HZ.out.2.2.2).cell (o+k) (by have:=HZ.out.1; have:=HN.out; have:=HO.out; simp; omega)
   have hfz:=(Wr.blk HG.out HZ.out.2.2.2).frozen (o+k)
   rw [← HO.out,yga pre Z A post k HZ.out.1 (by rw [HN.out]; omega),HO.out] at hcell
   obtain ⟨x,hx⟩:∃ x,A.getD k 0=x:=⟨_,rfl⟩
   obtain ⟨y,hy⟩:∃ y,B.getD k 0=y:=⟨_,rfl⟩
   rw [hx] at hcell
   rw [hy] at hcell'
   have hxb:x < 4294967296:=by rw [← hx]; exact HA.out.getD k
   have hyb:y < 4294967296:=by rw [← hy]; exact HB.out.ok.getD k
   have hyf:y*f<=18446744065119617025:=by
    have h1:y*f<=4294967295*4294967295:=ziz (by omega) (by omega)
    omega
   obtain ⟨C,hC⟩:∃ C,cy+y*f=C:=⟨_,rfl⟩
   have hCi:(cy:Int)+(y:Int)*(f:Int)=(C:Int):=by rw [← hC,zjx,zho]
   have hCb:C < 18446744073709551616:=by omega
   have hyf':(y:Int)*(f:Int)<=18446744065119617025:=by rw [← zho]; omega
   have hyf0:0<=(y:Int)*(f:Int):=by rw [← zho]; omega
   have HX:=hid hx
   have HY:=hid hy
   have HC:=hid hC
   clear hx hy hBl hyf hC
   go_wp2
   go_roundw
   case rel =>
    obtain ⟨hz1,hz2,hz3,hz4⟩:=HZ.out
    obtain ⟨z,br',b1,b2,e1,e2,e3⟩:=yis x (C % 4294967296) br hxb (by omega) hbr
    rw [Int.natCast_emod] at e1 e2
    refine ⟨k+1,C / 4294967296,br',by omega,by go_num,by omega,b2,by go_num,by rw [← e2]; rfl,Z ++ [z],by simp [hz1],hz2.snoc b1,?_,?_⟩
    ·rw [yci,hz1,yau A k (by rw [HN.out]; omega),yau B k (by rw [HB.out.len]; omega),zhu,HX.out,HY.out]
     have hC:=HC.out
     exact ynt hz3 (by omega)
    ·exact Wr.next' HG.out hz1 (by rw [HN.out]; omega) hz4 (by rw [HO.out]) e1
   case measure=>simp [intOf]; omega
  ·have hkm:k=m:=by omega
   subst hkm
   have hcell:=(Wr.blk HG.out HZ.out.2.2.2).cell (o+k) (by have:=HZ.out.1; have:=HN.out; have:=HO.out; simp; omega)
   have hfz:=(Wr.blk HG.out HZ.out.2.2.2).frozen (o+k)
   rw [← HO.out,yga pre Z A post k HZ.out.1 (by rw [HN.out]; omega),HO.out] at hcell
   obtain ⟨x,hx⟩:∃ x,A.getD k 0=x:=⟨_,rfl⟩
   rw [hx] at hcell
   have hxb:x < 4294967296:=by rw [← hx]; exact HA.out.getD k
   obtain ⟨z,bo,b1,b2,e1,e2,e3⟩:=yis x cy br hxb hcy hbr
   have HX:=hid hx
   have HE:=hid (And.intro e1 (And.intro e2 e3))
   clear hx e1 e2 e3
   go_wp2
   go_ret
   obtain ⟨e1,e2,e3⟩:=HE.out
   obtain ⟨hz1,hz2,hz3,hz4⟩:=HZ.out
   refine ⟨Z ++ [z],bo,by simp [hz1],hz2.snoc b1,b2,?_,?_,?_⟩
   ·have ht:A.take (k+1)=A:=zhg (by rw [HN.out]; exact zha _)
    have hs:=yau A k (by rw [HN.out]; omega)
    rw [ht,HX.out] at hs
    rw [zhg (l:=B) (by rw [HB.out.len]; exact zha _)] at hz3
    rw [yci,hz1,hs,zhu]
    have:=ynt (y:=0) (f:=f) hz3 (show z+0*f+(cy+br)=x+4294967296*bo by omega)
    rw [zin,zif] at this
    exact this
   ·first
     | (show Ending.returned (.bool _)=_; rw [e2]; congr 2; rw [Bool.eq_iff_iff]; simp; done)
     | (simp [e2]; done)
     | (congr 2; rw [e2,Bool.eq_iff_iff]; simp; omega)
   ·have:=Wr.next' HG.out hz1 (by rw [HN.out]; omega) hz4 (show pre.length+k=o+k by rw [HO.out]) e1
    rw [ziu (l:=A) (by rw [HN.out]; exact zha _),zhz] at this
    exact this
theorem yi3 {U V T F K q:Nat}(hU:U < (T+1)*K)(hV:F*K<=V)(hK:0 < K)(hq:q*V<=U)(hF:0 < F):q<=T / F:=by
 rw [zkq hF]
 apply Classical.byContradiction
 intro hc
 have h1:(T+1)*K<=q*F*K:=zhn _ (by omega)
 have h2:q*(F*K)<=q*V:=zhm _ hV
 rw [← zhk] at h2
 omega
theorem yra {U V u3 v2 K d q:Nat}(hU:U < (u3+1)*K)(hV:v2*K<=V)(hd:u3 < d*v2)(hq:q*V<=U):q < d:=by
 apply Classical.byContradiction
 intro hc
 have h1:d*V<=q*V:=zhn _ (by omega)
 have h2:d*(v2*K)<=d*V:=zhm _ hV
 rw [← zhk] at h2
 have h3:(u3+1)*K<=d*v2*K:=zhn _ hd
 omega
theorem ysy {U V u3 v2 K d q:Nat}(hU:u3*K<=U)(hV:V < (v2+1)*K)(hd:d*v2<=u3)(hdv:d<=v2)(hq:U < (q+1)*V):d<=q+1:=by
 apply Classical.byContradiction
 intro hc
 obtain ⟨e,rfl⟩:∃ e,d=e+1:=⟨d-1,by omega⟩
 have h1:(q+1)*V<=e*V:=zhn _ (by omega)
 have h2:e*V<=e*((v2+1)*K):=zhm _ (by omega)
 have h3:(e+1)*v2*K<=u3*K:=zhn _ hd
 have h4:e*((v2+1)*K)=(e*v2+e)*K:=by rw [← zhk,zht,zi2]
 have h5:(e+1)*v2*K=(e*v2+v2)*K:=by rw [zhv,ziv]
 have h6:(e*v2+e)*K<=(e*v2+v2)*K:=zhn _ (by omega)
 omega
theorem yu9 {xs:List Nat}{n:Nat}(ho:Ok xs)(hl:xs.length=n+2):∃ low,low < 4294967296 ^ n/\val xs=low+4294967296 ^ n*(xs.getD n 0+4294967296*xs.getD (n+1) 0):=by
 have h1:=yau xs n (by omega)
 have h2:=yau xs (n+1) (by omega)
 rw [zhg (by omega),h1,zhu] at h2
 have h3:=yc1 (ho.take n)
 rw [zh6,ziq (by omega)] at h3
 refine ⟨_,h3,?_⟩
 rw [h2,zht,zhk]
 omega
theorem zbp {xs:List Nat}{n:Nat}(ho:Ok xs)(hl:xs.length=n+1):∃ low,low < 4294967296 ^ n/\val xs=low+4294967296 ^ n*xs.getD n 0:=by
 have h1:=yau xs n (by omega)
 rw [zhg (by omega)] at h1
 have h3:=yc1 (ho.take n)
 rw [zh6,ziq (by omega)] at h3
 exact ⟨_,h3,h1⟩
structure Gs (U V d:Nat):Prop where
 low:U / V<=d
 high:d<=U / V+1
 lim:d < 4294967296
structure GsIn (U V T F S u2 k:Nat):Prop where
 hT:U < (T+1)*4294967296 ^ (k+1)
 h3l:(T*4294967296+u2)*4294967296 ^ k<=U
 h3u:U < (T*4294967296+u2+1)*4294967296 ^ k
 hF:F*4294967296 ^ (k+1)<=V
 h2l:(F*4294967296+S)*4294967296 ^ k<=V
 h2u:V < (F*4294967296+S+1)*4294967296 ^ k
 hTF:T<=F*4294967296+4294967295
theorem zf1 {us vs:List Nat}{k:Nat}(hou:Ok us)(hov:Ok vs)(hlu:us.length=k+3)(hlv:vs.length=k+2)(hlt:val us < val vs*4294967296):
  GsIn (val us) (val vs) (us.getD (k+2) 0*4294967296+us.getD (k+1) 0) (vs.getD (k+1) 0) (vs.getD k 0) (us.getD k 0) k:=by
 obtain ⟨l1,b1,e1⟩:=yu9 (n:=k+1) hou hlu
 obtain ⟨l2,b2,e2⟩:=yu9 (n:=k) hov hlv
 obtain ⟨l3,b3,e3⟩:=zbp (n:=k+1) hov hlv
 have e1':val us=val (us.take k)+4294967296 ^ k*us.getD k 0+4294967296 ^ (k+1)*(us.getD (k+1) 0+4294967296*us.getD (k+2) 0):=by
  have h1:=yau us k (by omega)
  have h2:=yau us (k+1) (by omega)
  have h3:=yau us (k+2) (by omega)
  rw [zhg (by omega),h2,h1,zhu (n:=4294967296) (m:=k+1)] at h3
  rw [h3,zht,zhk]
  omega
 have b0:=yc1 (hou.take k)
 rw [zh6,ziq (by omega)] at b0
 have hF1:=hov.getD (k+1)
 generalize us.getD k 0=u2 at *
 have hu1:=hou.getD (k+1)
 generalize us.getD (k+1) 0=u1 at *
 generalize us.getD (k+2) 0=u0 at *
 generalize vs.getD (k+1) 0=F at *
 generalize vs.getD k 0=S at *
 generalize val (us.take k)=l0 at *
 generalize val us=U at *
 generalize val vs=V at *
 rw [zhu] at *
 generalize hK:4294967296 ^ k=K at *
 have c1:K*4294967296*(u1+4294967296*u0)=(u0*4294967296+u1)*(K*4294967296):=by rw [zhd,zjt,zhd 4294967296 u0]
 have c2:K*(S+4294967296*F)=(F*4294967296+S)*K:=by rw [zhd,zjt,zhd 4294967296 F]
 have c3:K*u2=u2*K:=zhd _ _
 have c4:(u0*4294967296+u1)*(K*4294967296)=(u0*4294967296+u1)*4294967296*K:=by rw [zhd K,zhk]
 have c5:K*4294967296*F=F*(K*4294967296):=zhd _ _
 obtain ⟨T,hT⟩:∃ T,u0*4294967296+u1=T:=⟨_,rfl⟩
 rw [hT] at c1 c4
 rw [hT]
 refine ⟨?_,?_,?_,?_,?_,?_,?_⟩
 all_goals (try rw [zhu])
 all_goals (try rw [hK])
 all_goals clear hK
 ·rw [zhv,ziv]; omega
 ·rw [zhv]; omega
 ·rw [zhv,zhv,ziv]; omega
 ·omega
 ·omega
 ·rw [zhv (F*4294967296+S) 1,ziv]; omega
 ·apply Classical.byContradiction
  intro hc
  have hu0:F+1<=u0:=by omega
  have d1:(F+1)*4294967296*(K*4294967296)<=T*(K*4294967296):=zhn _ (by omega)
  have d2:V*4294967296<=(F+1)*(K*4294967296)*4294967296:=zhn _ (by rw [zhv,ziv]; omega)
  have d3:(F+1)*(K*4294967296)*4294967296=(F+1)*4294967296*(K*4294967296):=by rw [zhk,zhd (K*4294967296),← zhk]
  omega
theorem yx8 {U V T F S u2 k d r:Nat}(G:GsIn U V T F S u2 k)(hV:0 < V)(hF:2147483648<=F)(hS:S < 4294967296)(hdr:d*F+r=T)(hlow:U / V<=d)(hd:d < 4294967296)(ht:d*S<=r*4294967296+u2):Gs U V d:=by
 refine ⟨hlow,?_,hd⟩
 have hq:U < (U / V+1)*V:=by
  have:=Nat.lt_mul_div_succ U hV
  rw [zhd] at this
  exact this
 refine ysy G.h3l G.h2u ?_ (by omega) hq
 rw [zht,← zhk,← hdr,zhv]
 omega
theorem yz6 {U V T F S u2 k d r:Nat}(G:GsIn U V T F S u2 k)(hV:0 < V)(hdr:d*F+r=T)(hlt:U < V*4294967296)(ht:4294967296<=d\/r*4294967296+u2 < d*S):U / V < d:=by
 rcases ht with h | h
 ·have:U / V < 4294967296:=(Nat.div_lt_iff_lt_mul hV).2 (by omega)
  omega
 ·have h3:T*4294967296+u2 < d*(F*4294967296+S):=by
   have e1:d*(F*4294967296+S)=d*F*4294967296+d*S:=by rw [zht d (F*4294967296) S,← zhk d F 4294967296]
   have e2:T*4294967296=d*F*4294967296+r*4294967296:=by rw [← hdr,zhv (d*F) r 4294967296]
   rw [e1,e2,Nat.add_assoc (d*F*4294967296) (r*4294967296) u2]
   exact Nat.add_lt_add_left h _
  exact yra (u3:=T*4294967296+u2) (v2:=F*4294967296+S) (K:=4294967296 ^ k) G.h3u G.h2l h3 (zki U V)
theorem yz7 (w:World)(p q:Option Addr)(n m c d:Nat)(us vs:List Nat)(hu:Sl w p m c us)(hv:Sl w q n d vs)(hm:m=n+1)(hn2:2<=n)(htop:2147483648<=vs.getD (n-1) 0)(hlt:val us < val vs*4294967296)(hV:0 < val vs):
  Calls Tryz.prog 146 #[.slice p m c,.slice q n d] w fun e w'=>∃ x:Nat,Gs (val us) (val vs) x/\e=.returned (.int .u32 x)/\∃ nq,w'=w.drewN nq:=by
 subst hm
 obtain ⟨k,rfl⟩:∃ k,n=k+2:=⟨n-2,by omega⟩
 have G:=zf1 hu.ok hv.ok hu.len hv.len hlt
 have htop':2147483648<=vs.getD (k+1) 0:=htop
 obtain ⟨bu,ou,epu,c0⟩:=hu.lie (k+2) (by rw [hu.len]; omega)
 have c1:w.cell? ⟨bu,ou+(k+1),none⟩=some (.int .u32 (us.getD (k+1) 0)):=by
  obtain ⟨b',o',e',h'⟩:=hu.lie (k+1) (by rw [hu.len]; omega)
  rw [epu] at e'; simp only [Option.some.injEq,Addr.mk.injEq] at e'; obtain ⟨rfl,rfl,_⟩:=e'; exact h'
 have c2:w.cell? ⟨bu,ou+k,none⟩=some (.int .u32 (us.getD k 0)):=by
  obtain ⟨b',o',e',h'⟩:=hu.lie k (by rw [hu.len]; omega)
  rw [epu] at e'; simp only [Option.some.injEq,Addr.mk.injEq] at e'; obtain ⟨rfl,rfl,_⟩:=e'; exact h'
 obtain ⟨bv,ov,epv,d1⟩:=hv.lie (k+1) (by rw [hv.len]; omega)
 have d0:w.cell? ⟨bv,ov+k,none⟩=some (.int .u32 (vs.getD k 0)):=by
  obtain ⟨b',o',e',h'⟩:=hv.lie k (by rw [hv.len]; omega)
  rw [epv] at e'; simp only [Option.some.injEq,Addr.mk.injEq] at e'; obtain ⟨rfl,rfl,_⟩:=e'; exact h'
 have b0:=hu.ok.getD (k+2)
 have b1:=hu.ok.getD (k+1)
 have b2:=hu.ok.getD k
 have b3:=hv.ok.getD (k+1)
 have b4:=hv.ok.getD k
 have hcu:=hu.cap
 have hcv:=hv.cap
 have hmu:=hu.max
 have hmv:=hv.max
 unfold maxLen at hmu hmv
 clear htop hu hv
 generalize us.getD (k+2) 0=u0 at *
 generalize us.getD (k+1) 0=u1 at *
 generalize us.getD k 0=u2 at *
 generalize vs.getD (k+1) 0=F at *
 generalize vs.getD k 0=S at *
 generalize val us=U at *
 generalize val vs=V at *
 obtain ⟨T,hT⟩:∃ T,u0*4294967296+u1=T:=⟨_,rfl⟩
 rw [hT] at G
 have hor:bits .or .u64 ((u0:Int)*4294967296) (u1:Int)=(T:Int):=by rw [or64' u1 u0 b1 b0,← hT]; omega
 have hTb:T < 18446744073709551616:=by omega
 obtain ⟨D0,hD0⟩:∃ D0,T / F=D0:=⟨_,rfl⟩
 obtain ⟨R0,hR0⟩:∃ R0,T % F=R0:=⟨_,rfl⟩
 have hDi:(T:Int) / (F:Int)=(D0:Int):=by rw [← hD0]; simp
 have hRi:(T:Int).tmod (F:Int)=(R0:Int):=by rw [← hR0]; exact (Int.ofNat_tmod T F).symm
 have hRi2:(T:Int) % (F:Int)=(R0:Int):=by rw [← hR0]; simp
 have hF0:((F:Int) == 0)=false:=beq_eq_false_iff_ne.2 (by omega)
 have hTF:=G.hTF
 have hD0b:D0<=4294967297:=by
  rw [← hD0]
  have h1:T < F*4294967298:=by omega
  have:=(Nat.div_lt_iff_lt_mul (show 0 < F by omega)).2 (show T < 4294967298*F by omega)
  omega
 have hR0b:R0 < 4294967296:=by have:=zic T (show 0 < F by omega); omega
 have hDR:Hid (D0*F+R0=T/\U / V<=D0):=by
  refine ⟨by rw [← hD0,← hR0,zhd]; exact zh9 T F,?_⟩
  rw [← hD0]
  exact yi3 (K:=4294967296 ^ (k+1)) G.hT G.hF (zkp (by omega)) (zki U V) (by omega)
 have HG:=hid G
 have HLT:=hid hlt
 have HTF:=hid hTF
 subst epu
 subst epv
 clear G hlt hT hD0 hR0 hTF
 go_enter Tryz.func146,Tryz.ntmps146
 go_wp2_with fail
 go_quiet (fail)
 go_wp2_with fail
 go_quiet (fail)
 go_wp2_with fail
 go_quiet (fail)
 go_wp2_with fail
 go_loopw [9,10] (fun v1 v2 wr=>∃ D R:Nat,v1=.int .u64 D/\v2=.int .u64 R/\D<=4294967297/\R < 4294967296/\Hid (D*F+R=T/\U / V<=D/\∃ nq,wr=w.drewN nq)) (fun v1 _ _=>(intOf v1).toNat)
 case atStart =>
  refine ⟨D0,R0,?_,?_,hD0b,hR0b,hDR.out.1,hDR.out.2,?_⟩
  ·first | rfl | (rw [IntKind.wrap_u64]; congr 1; omega)
  ·first | rfl | go_num
  ·first | exact dr1 _ _ | exact dr2 _ _ _ | exact dr3 _ _ _ _
 case round =>
  obtain ⟨D,R,rfl,rfl,hD,hR,HR⟩:=hrel
  obtain ⟨nq,hwr⟩:=HR.out.2.2
  subst hwr
  obtain ⟨DS,hDS⟩:∃ DS,D*S=DS:=⟨_,rfl⟩
  have hDSb:DS < 18446744073709551616:=by
   rw [← hDS]
   have:D*S<=4294967297*4294967295:=ziz hD (by omega)
   omega
  have hDSi:(D:Int)*(S:Int)=(DS:Int):=by rw [← hDS]; simp
  obtain ⟨RR,hRR⟩:∃ RR,R*4294967296+u2=RR:=⟨_,rfl⟩
  have hRRi:bits .or .u64 ((R:Int)*4294967296) (u2:Int)=(RR:Int):=by rw [or64' u2 R b2 hR,← hRR]; omega
  have HDS:=hid hDS
  have HRR:=hid hRR
  clear hDS hRR
  by_cases htest:4294967296<=D\/RR < DS
  ·have hlow:=yz6 HG.out hV HR.out.1 HLT.out (by rcases htest with h | h; exact Or.inl h; exact Or.inr (by rw [HRR.out,HDS.out]; exact h))
   have hD1:1<=D:=zij (zhs _) hlow
   have HLOW:=hid hlow
   clear hlow
   have hend:Hid (4294967296<=R+F->Gs U V (D-1)):=by
    intro hb
    have hr:=HR.out.1
    have e1:(D-1)*F+(R+F)=T:=by
     obtain ⟨E,rfl⟩:∃ E,D=E+1:=⟨D-1,by omega⟩
     rw [ziw,← hr,zhv E 1 F,ziv]; omega
    have hlt2:D-1 < 4294967296:=by
     apply Classical.byContradiction
     intro hc
     have h1:4294967296*F<=(D-1)*F:=zhn _ (by omega)
     have h2:=HTF.out
     omega
    refine yx8 HG.out hV htop' b4 e1 (by have:=HLOW.out; omega) hlt2 ?_
    have h3:(D-1)*S<=4294967296*4294967296:=ziz (by omega) (by omega)
    have h4:4294967296*4294967296<=(R+F)*4294967296:=zhn _ hb
    omega
   have hnext:Hid (R+F < 4294967296->(D-1)*F+(R+F)=T/\U / V<=D-1):=by
    intro _
    have hr:=HR.out.1
    refine ⟨?_,by have:=HLOW.out; omega⟩
    obtain ⟨E,rfl⟩:∃ E,D=E+1:=⟨D-1,by omega⟩
    rw [ziw,← hr,zhv E 1 F,ziv]; omega
   have fin:∀ b:Prop,True:=fun _=>trivial
   clear fin
   by_cases hover:4294967296<=R+F
   ·have ho:(((R:Int)+(F:Int)) / 4294967296 != 0)=true:=by rw [bne_iff_ne]; omega
    by_cases hbig:4294967296<=D
    ·have hb:((D:Int) / 4294967296 != 0)=true:=by rw [bne_iff_ne]; omega
     go_wp2
     go_ret
     exact ⟨D-1,hend.out hover,ydf (by have:=(hend.out hover).lim; omega),dr1 _ _⟩
    ·have hb:((D:Int) / 4294967296 != 0)=false:=by rw [bne_eq_false_iff_eq]; omega
     have ht:RR < DS:=by omega
     go_wp2
     go_ret
     exact ⟨D-1,hend.out hover,ydf (by have:=(hend.out hover).lim; omega),dr1 _ _⟩
   ·have ho:(((R:Int)+(F:Int)) / 4294967296 != 0)=false:=by rw [bne_eq_false_iff_eq]; omega
    by_cases hbig:4294967296<=D
    ·have hb:((D:Int) / 4294967296 != 0)=true:=by rw [bne_iff_ne]; omega
     go_wp2
     go_roundw
     case rel=>exact ⟨D-1,R+F,by go_num,by go_num,by omega,by omega,(hnext.out (by omega)).1,(hnext.out (by omega)).2,dr1 _ _⟩
     case measure=>simp [intOf]; omega
    ·have hb:((D:Int) / 4294967296 != 0)=false:=by rw [bne_eq_false_iff_eq]; omega
     have ht:RR < DS:=by omega
     go_wp2
     go_roundw
     case rel=>exact ⟨D-1,R+F,by go_num,by go_num,by omega,by omega,(hnext.out (by omega)).1,(hnext.out (by omega)).2,dr1 _ _⟩
     case measure=>simp [intOf]; omega
  ·have hbig:D < 4294967296:=by omega
   have hb:((D:Int) / 4294967296 != 0)=false:=by rw [bne_eq_false_iff_eq]; omega
   have ht:DS<=RR:=by omega
   have HE:=hid (yx8 HG.out hV htop' b4 HR.out.1 HR.out.2.1 hbig (by rw [HDS.out,HRR.out]; exact ht))
   go_wp2
   go_ret
   exact ⟨D,HE.out,ydf (by omega),dr1 _ _⟩
theorem yn7 {A V Z P bo q:Nat}(h:Z+V*q=A+P*bo)(hZ:Z < P)(hq:V*q<=A):bo=0/\Z=A-V*q:=by
 have hb:bo=0:=by
  apply Classical.byContradiction
  intro hne
  have:P*1<=P*bo:=zhm _ (by omega)
  omega
 subst hb
 rw [zin] at h
 omega
theorem yq3 {A V Z P bo q:Nat}(h:Z+V*(q+1)=A+P*bo)(hb:bo<=1)(hq:A < V*(q+1)):bo=1/\Z+V+V*q=A+P:=by
 have:bo=1:=by
  apply Classical.byContradiction
  intro hne
  have h0:bo=0:=by omega
  rw [h0,zin] at h
  omega
 subst this
 rw [zht,zi2,zi2] at h
 exact ⟨rfl,by omega⟩
theorem yq2 {A V Z Z' P cy q:Nat}(h:Z+V+V*q=A+P)(h2:Z'+P*cy=Z+V)(hc:cy<=1)(hZ':Z' < P)(hq:V*q<=A)(hr:A-V*q < P):Z'=A-V*q:=by
 have:cy=1:=by
  apply Classical.byContradiction
  intro hne
  have h0:cy=0:=by omega
  rw [h0,zin] at h2
  omega
 subst this
 rw [zi2] at h2
 omega
theorem yzs (w:World)(g:Nat)(pre A post:List Nat)(n m c:Nat)(q:Option Addr)(d:Nat)(B:List Nat)(hl:A.length=m)(hm:m=n+1)(hmc:m<=c)(hcm:c<=maxLen)
  (hg:Blk w g (pre ++ A ++ post)) (hA:Ok A) (hB:Sl w q n d B) (hq:Apart q B g) (hn2:2<=n) (htop:2147483648<=B.getD (n-1) 0) (hlt:val A < val B*4294967296):
  Calls Tryz.prog 140 #[.slice (some ⟨g,pre.length,none⟩) m c,.slice q n d] w fun e w' =>
   ∃ Z:List Nat,Z.length=m/\Ok Z/\val Z=val A % val B/\e=.returned (.int .u32 (val A / val B:Nat))/\Wr w g (pre ++ Z ++ post) w':=by
 subst hm
 have hV:0 < val B:=by
  apply Classical.byContradiction
  intro hc
  have:val B=0:=by omega
  rw [this] at hlt
  omega
 have HU:=hid (show Sl w (some ⟨g,pre.length,none⟩) (n+1) c A from ⟨hl,hmc,hcm,(fun e=>by cases e),hA,Limbs.of_block hg⟩)
 have G1:=hid (yz7 w (some ⟨g,pre.length,none⟩) q n (n+1) c d A B HU.out hB rfl hn2 htop hlt hV)
 have HG:=hid hg
 have HA:=hid hA
 have HB:=hid hB
 have HQ:=hid hq
 have HL:=hid hl
 have hV':=hid hV
 obtain ⟨qv,hqv⟩:∃ qv,val A / val B=qv:=⟨_,rfl⟩
 have hdm:val B*qv+val A % val B=val A:=by rw [← hqv]; exact zh9 _ _
 have hml:val A % val B < val B:=zic _ hV
 have hmod:Hid (val A-val B*qv=val A % val B/\val B*qv<=val A/\val A < val B*(qv+1)):=by
  refine ⟨by omega,by omega,?_⟩
  rw [zht,zi2]
  omega
 have hbp:=yc1 hB.ok
 rw [hB.len] at hbp
 have hmp:Hid (val A-val B*qv < 4294967296 ^ (n+1)):=by
  show val A-val B*qv < 4294967296 ^ (n+1)
  have:val A-val B*qv < 4294967296 ^ n:=by omega
  exact zhe this (zhp (by omega) (by omega))
 obtain ⟨po,hpo⟩:∃ po,pre.length=po:=⟨_,rfl⟩
 have HPO:=hid hpo
 rw [hqv]
 rw [hpo] at G1 ⊢
 have HQV:=hid hqv
 clear hl hg hA hB hq htop hlt hdm hml hbp hqv hpo hV
 go_enter Tryz.func140,Tryz.ntmps140
 go_wp2_with fail
 refine G1.out.mono ?_
 rintro e W1 ⟨x,gs,rfl,nq,hW1⟩
 have HW1:Hid (Wr w g (pre ++ A ++ post) W1):=by rw [hW1]; exact (Wr.refl HG.out).drewN nq
 have HBel:Hid (Below w.heap.size w W1):=by rw [hW1]; exact ybq (Below.refl _ _) nq
 have hxl:=gs.lim
 have HGS:=hid gs
 clear hW1 gs G1
 have TT:=yow W1 g pre A post (n+1) c q n d B x HL.out hmc hcm (Wr.blk HG.out HW1.out) HA.out (HB.out.below HBel.out) HQ.out rfl hxl
 rw [HPO.out] at TT
 have HTT:=hid TT
 clear TT
 go_wp2_with fail
 refine HTT.out.mono ?_
 rintro e W2 ⟨Z,bo,z1,z2,z3,z4,rfl,z5⟩
 have hz:=yc1 z2
 rw [z1] at hz
 have HZ:=hid (And.intro z1 (And.intro z2 (And.intro z4 (And.intro z5 hz))))
 clear z1 z2 z4 z5 hz
 by_cases hx:x=qv
 ·have hr:=yn7 (by have:=HZ.out.2.2.1; rw [hx] at this; exact this) HZ.out.2.2.2.2 hmod.out.2.1
  obtain ⟨hb0,hzv⟩:=hr
  subst hb0
  have HZV:=hid hzv
  have HXQ:=hid hx
  clear hzv hx
  go_wp2
  go_ret
  obtain ⟨z1,z2,z4,z5,hz⟩:=HZ.out
  exact ⟨Z,z1,z2,by rw [HZV.out,hmod.out.1],by rw [← HXQ.out]; rfl,HW1.out.trans z5⟩
 ·have hx1:x=qv+1:=by
   have h1:=HGS.out.low
   have h2:=HGS.out.high
   rw [HQV.out] at h1 h2
   omega
  obtain ⟨hb1,hzv⟩:=yq3 (by have:=HZ.out.2.2.1; rw [hx1] at this; exact this) z3 hmod.out.2.2
  subst hb1
  have AD:=yrv W2 g pre Z post (n+1) c q n d B HZ.out.1 hmc hcm (Wr.blk (Wr.blk HG.out HW1.out) HZ.out.2.2.2.1) HZ.out.2.1 ⟨HB.out.len,HB.out.cap,HB.out.max,HB.out.nil,HB.out.ok,HZ.out.2.2.2.1.limbs (HB.out.below HBel.out).lie HQ.out⟩ HQ.out (by omega)
  rw [HPO.out] at AD
  have HAD:=hid AD
  have HZV:=hid hzv
  have hx1i:((x:Int)-1)=(qv:Int):=by omega
  have hxp:1<=x:=by omega
  have HX1:=hid hx1
  clear hx1 hzv hx AD
  go_wp2_with fail
  refine HAD.out.mono ?_
  rintro e W3 ⟨Z',cy,y1,y2,y3,y4,rfl,y5⟩
  have hz':=yc1 y2
  rw [y1] at hz'
  have hfin:=yq2 HZV.out y4 y3 hz' hmod.out.2.1 hmp.out
  have HF:=hid (And.intro y1 (And.intro y2 (And.intro hfin y5)))
  clear y1 y2 y3 y4 y5 hz' hfin
  go_wp2
  go_ret
  obtain ⟨f1,f2,f3,f4⟩:=HF.out
  exact ⟨Z',f1,f2,by rw [f3,hmod.out.1],ydf (by have:=HX1.out; omega),(HW1.out.trans HZ.out.2.2.2.1).trans f4⟩
theorem yqh {v n:Nat}(hn:0 < n)(h1:4294967296 ^ (n-1)*2147483648<=v)(h2:v < 4294967296 ^ n):(digs v).length=n/\2147483648<=(digs v).getD (n-1) 0:=by
 obtain ⟨k,rfl⟩:∃ k,n=k+1:=⟨n-1,by omega⟩
 rw [ziw] at h1 ⊢
 have hle:=ya1 h2
 have hlt:=ycn v
 have hk0:0 < 4294967296 ^ k:=zkp (by omega)
 have hl:(digs v).length=k+1:=by
  apply Classical.byContradiction
  intro hne
  have:4294967296 ^ (digs v).length<=4294967296 ^ k:=zhp (by omega) (by omega)
  omega
 refine ⟨hl,?_⟩
 have e:=yau (digs v) k (by omega)
 rw [zhg (by omega),yaf] at e
 have ht:=yc1 ((ybo v).take k)
 rw [zh6,ziq (by omega)] at ht
 apply Classical.byContradiction
 intro hc
 have h3:4294967296 ^ k*((digs v).getD k 0+1)<=4294967296 ^ k*2147483648:=zhm _ (by omega)
 rw [zht,zi2] at h3
 omega
theorem ypq {B:List Nat}{n t s:Nat}(ho:Ok B)(hl:B.length=n)(hn:0 < n)(ht:B.getD (n-1) 0=t)(h0:t≠0)(hs:s+Go.bitLen t=32):
  4294967296 ^ (n-1)*2147483648<=val B*2 ^ s/\val B*2 ^ s < 4294967296 ^ n:=by
 obtain ⟨k,rfl⟩:∃ k,n=k+1:=⟨n-1,by omega⟩
 rw [ziw] at ht ⊢
 obtain ⟨s1,s2⟩:=bitLen_spec t
 have s3:=s2 h0
 have e:=yau B k (by omega)
 rw [zhg (by omega),ht] at e
 have hv:=yc1 (ho.take k)
 rw [zh6,ziq (by omega)] at hv
 have hb0:Go.bitLen t≠0:=by intro e; rw [e] at s1; simp at s1; exact h0 s1
 have hp:0 < 2 ^ s:=zih s
 constructor
 ·have e2:(2147483648:Nat)=2 ^ (Go.bitLen t-1)*2 ^ s:=by rw [← zit,show Go.bitLen t-1+s=31 from by omega]
  rw [e2,← zhk]
  apply zhn
  have:4294967296 ^ k*2 ^ (Go.bitLen t-1)<=4294967296 ^ k*t:=zhm _ s3
  omega
 ·have e2:(4294967296:Nat)=2 ^ Go.bitLen t*2 ^ s:=by rw [← zit,show Go.bitLen t+s=32 from by omega]
  have h3:4294967296 ^ k*(t+1)<=4294967296 ^ k*2 ^ Go.bitLen t:=zhm _ s1
  rw [zht,zi2] at h3
  have h4:val B < 4294967296 ^ k*2 ^ Go.bitLen t:=by omega
  have h5:=zjf h4 hp
  rw [zhk,← e2,← zhu] at h5
  exact h5
theorem yrd {A B:List Nat}{la n s:Nat}(hA:Ok A)(hl:A.length=la)(hn:0 < n)(hnl:n<=la)(hB:4294967296 ^ (n-1)<=val B):val A*2 ^ s < val B*2 ^ s*4294967296 ^ (la-n+1):=by
 have h1:=yc1 hA
 rw [hl] at h1
 have h2:4294967296 ^ (n-1)*4294967296 ^ (la-n+1)<=val B*4294967296 ^ (la-n+1):=zhn _ hB
 rw [← zit,show n-1+(la-n+1)=la from by omega] at h2
 rw [zhk,zhd (2 ^ s),← zhk]
 exact zjf (by omega) (zih s)
theorem ywk {X:List Nat}{j n i V:Nat}(ho:Ok X)(hl:X.length=j+(n+1)+i)(hV:V < 4294967296 ^ n)(h:val X < V*4294967296 ^ (j+1)):
  val (X.take j) < 4294967296 ^ j/\val X=val (X.take j)+4294967296 ^ j*val ((X.drop j).take (n+1))/\val ((X.drop j).drop (n+1))=0/\val ((X.drop j).take (n+1)) < V*4294967296:=by
 have e1:=yck X j (by omega)
 have e2:=yck (X.drop j) (n+1) (by simp; omega)
 have t1:=yc1 (ho.take j)
 rw [zh6,ziq (by omega)] at t1
 have hp:0 < 4294967296 ^ j:=zkp (by omega)
 generalize val (X.take j)=a at *
 generalize hb:val ((X.drop j).take (n+1))=b at *
 generalize hc:val ((X.drop j).drop (n+1))=c at *
 rw [zhu,zhd (4294967296 ^ j),← zhk] at h
 have h3:4294967296 ^ j*val (X.drop j) < 4294967296 ^ j*(V*4294967296):=by
  rw [zhd (4294967296 ^ j) (V*4294967296)]
  omega
 have h4:=Nat.lt_of_mul_lt_mul_left h3
 have hc0:c=0:=by
  apply Classical.byContradiction
  intro hne
  have h5:4294967296 ^ (n+1)*1<=4294967296 ^ (n+1)*c:=zhm _ (by omega)
  have h6:V*4294967296 < 4294967296 ^ n*4294967296:=zjf hV (by omega)
  rw [← zhu] at h6
  omega
 rw [hc0,zin,zif] at e2
 rw [e2] at e1 h4
 exact ⟨t1,e1,hc0,h4⟩
theorem ys8 {a K b V:Nat}(h:a < K)(hV:0 < V):a+K*(b % V) < V*K:=by
 have h1:K*(b % V+1)<=K*V:=zhm _ (zic _ hV)
 rw [zht,zi2,zhd K V] at h1
 omega
theorem ys9 {a K b V Q U:Nat}(h:a+K*b+V*(K*4294967296)*Q=U):a+K*(b % V)+V*K*(b / V+4294967296*Q)=U:=by
 have h1:K*b=K*(V*(b / V)+b % V):=by rw [zh9]
 rw [zht,← zhk] at h1
 rw [zht,zhd V K,← zhk]
 rw [← zhk,zhd V K] at h
 omega
theorem ypn {X V Q a b S:Nat}(h:X+V*Q=a*S)(hl:X < V)(hV:V=b*S)(hS:0 < S):Q=a / b/\X=(a % b)*S:=by
 have hb:0 < b:=by
  apply zhw
  intro e
  rw [e,Nat.zero_mul] at hV
  omega
 have hq:Q=a*S / V:=by
  rw [← h,zhd V Q,Nat.add_mul_div_right _ _ (by omega),zi8 hl,zig]
 have hr:X=a*S % V:=by
  rw [← h,zhd V Q,zku,zi7 hl]
 rw [hV,Nat.mul_div_mul_right _ _ hS] at hq
 rw [hV,Nat.mul_mod_mul_right] at hr
 exact ⟨hq,hr⟩
theorem lz_c (w:World)(x s:Nat)(hx:x < 4294967296)(hs:s+Go.bitLen x=32):
  Calls Tryz.prog 138 #[.int .u32 x] w fun e w'=>e=.returned (.int .i64 s)/\w'=w:=by
 have:=Tryz.bits_LeadingZeros32 (x:Int) w (by omega) (by omega)
 rw [zju,yhu (by omega),show (32:Int)-(Go.bitLen x:Int)=(s:Int) from by omega] at this
 exact this
theorem ze5 (w:World)(p:Option Addr)(n c:Nat)(xs:List Nat)(s:Nat)(h:Sl w p n c xs)(hs:s < 32)(hsz:n+1<=70368744177664):
  Calls Tryz.prog 139 #[.slice p n c,.int .i64 s] w fun e w'=>∃ r cr,e=.returned (.slice r (digs (val xs*2 ^ s)).length cr)/\Res w w' r cr (val xs*2 ^ s):=by
 have:=up_c w p n c xs (s:Int) 0 s h (by omega) hs (by omega)
 rw [zin,zig] at this
 exact this
theorem yzu (w:World)(p:Option Addr)(n c:Nat)(xs:List Nat)(s:Nat)(h:Sl w p n c xs)(hs:s < 32)(hsz:n<=70368744177664):
  Calls Tryz.prog 141 #[.slice p n c,.int .i64 s] w fun e w'=>∃ r cr,e=.returned (.slice r (digs (val xs / 2 ^ s)).length cr)/\Res w w' r cr (val xs / 2 ^ s):=by
 have:=yxz w p n c xs (s:Int) 0 s h (by omega) hs (by omega) hsz
 rw [zin,zig] at this
 exact this
theorem ykf {a K s:Nat}(h:a < K)(hs:s < 32):a*2 ^ s < K*4294967296:=by
 have h1:2 ^ s<=4294967296:=zhb (zhp (n:=2) (by omega) (show s<=32 by omega)) (by omega)
 have h2:0 < 2 ^ s:=zih s
 generalize 2 ^ s=P at *
 have h3:(a+1)*P<=K*P:=zhn _ h
 have h4:K*P<=K*4294967296:=zhm _ h1
 rw [zhv,ziv] at h3
 omega
def Two (r s:Option Addr):Prop:=∀ b o b' o',r=some ⟨b,o,none⟩->s=some ⟨b',o',none⟩->b≠b'
theorem Two.void (s:Option Addr):Two none s:=fun _ _ _ _ e=>by cases e
theorem Two.later {w w' W:World}{r s:Option Addr}{cs n:Nat}(h:∀ b o,r=some ⟨b,o,none⟩->b < W.heap.size)(k:Res W w' s cs n):Two r s:=fun b o b' o' e e'=>by
 have h1:=h b o e
 obtain ⟨_,h2,_⟩:=k.own b' o' e'
 omega
theorem Res.in {w w':World}{r:Option Addr}{c n:Nat}(k:Res w w' r c n):∀ b o,r=some ⟨b,o,none⟩->b < w'.heap.size:=fun b o e=>by
 obtain ⟨_,_,rest,h,_⟩:=k.own b o e
 exact h.size
structure Lg (w wr:World) (gu gq:Nat) (pv:Option Addr) (cv n e V U k:Nat) (X Q:List Nat):Prop where
 bel:Below w.heap.size w wr
 bu:Blk wr gu X
 bq:Blk wr gq (List.replicate (e+1-k) 0 ++ Q)
 sv:Sl wr pv n cv (digs V)
 ox:Ok X
 oq:Ok Q
 lx:X.length=n+e+1
 lq:Q.length=k
 less:val X < V*4294967296 ^ (e+1-k)
 same:val X+V*4294967296 ^ (e+1-k)*val Q=U
theorem ysh (w:World)(p q:Option Addr)(la c n d e:Nat)(A B:List Nat)(hle:la=n+e)(h:Sl w p la c A)(h':Sl w q n d B)(hn2:2<=n)(ht:B.getD (n-1) 0≠0)(hsz:la+1<=70368744177664):
  Calls Tryz.prog 133 #[.slice p la c,.slice q n d] w fun en w'=>∃ r cr s cs,en=.returned (.tuple #[.slice r (digs (val A / val B)).length cr,.slice s (digs (val A % val B)).length cs])/\Res w w' r cr (val A / val B)/\Res w w' s cs (val A % val B)/\Two r s:=by
 obtain ⟨t,htt⟩:∃ t,B.getD (n-1) 0=t:=⟨_,rfl⟩
 have htb:t < 4294967296:=by rw [← htt]; exact h'.ok.getD _
 rw [htt] at ht
 obtain ⟨s,hs⟩:∃ s,s+Go.bitLen t=32:=⟨32-Go.bitLen t,by have:=yk1 htb; omega⟩
 have hs32:s < 32:=by
  have h0:Go.bitLen t≠0:=by
   intro e0
   have:=(bitLen_spec t).1
   rw [e0] at this
   simp at this
   exact ht this
  omega
 have NT:=ypq h'.ok h'.len (by omega) htt ht hs
 have TH:=hid (yqh (by omega) NT.1 NT.2)
 have HVB:=hid NT.2
 have hB0:4294967296 ^ (n-1)<=val B:=by
  have e1:=yck B (n-1) (by rw [h'.len]; omega)
  have e2:=yeu B (n-1) (by rw [h'.len]; omega)
  rw [htt] at e2
  rw [e2] at e1
  simp only [val] at e1
  have:4294967296 ^ (n-1)*1<=4294967296 ^ (n-1)*(t+4294967296*val (B.drop (n-1+1))):=zhm _ (by omega)
  omega
 have LS:=hid (yrd (s:=s) h.ok h.len (show 0 < n by omega) (by omega) hB0)
 obtain ⟨b0,o0,rfl,hcell⟩:=h'.lie (n-1) (by rw [h'.len]; omega)
 rw [htt] at hcell
 have hm:=h.max
 have hc:=h.cap
 have hm':=h'.max
 have hc':=h'.cap
 unfold maxLen at hm hm'
 have U1:=hid (ze5 w (some ⟨b0,o0,none⟩) n d B s h' hs32 (by omega))
 have LZ:=hid (lz_c w t s htb hs)
 have HX:=hid h
 have HVL:Hid (val B*2 ^ s=val B*2 ^ s/\0 < val B):=⟨rfl,zhe (zkp (by omega)) hB0⟩
 have M1:∀ W:World,(Instr.makeSlice 22 (.int .i64 ((la:Int)+1)) (.int .i64 ((la:Int)+1))).run Tryz.prog W=.ok (.slice (some ⟨W.heap.size,0,none⟩) (la+1) (la+1)) (W.alloc (.cells (U (List.replicate (la+1) 0)).toArray 64)):=by
  have:=ydk (la+1) (by omega)
  simpa using this
 have M2:∀ W:World,(Instr.makeSlice 22 (.int .i64 ((la:Int)-(n:Int)+1)) (.int .i64 ((la:Int)-(n:Int)+1))).run Tryz.prog W=.ok (.slice (some ⟨W.heap.size,0,none⟩) (e+1) (e+1)) (W.alloc (.cells (U (List.replicate (e+1) 0)).toArray 64)):=by
  have:=ydk (e+1) (by omega)
  rw [show ((la:Int)-(n:Int)+1)=((e+1:Nat):Int) from by omega]
  exact this
 have hle1:la<=n+e:=by omega
 have hle2:n+e<=la:=by omega
 obtain ⟨V,hV⟩:∃ V,val B*2 ^ s=V:=⟨_,rfl⟩
 obtain ⟨UU,hU⟩:∃ UU,val A*2 ^ s=UU:=⟨_,rfl⟩
 rw [hV] at TH HVB LS U1
 rw [hU] at LS
 have hA1:=yc1 h.ok
 rw [h.len] at hA1
 have hLU:(digs UU).length<=la+1:=by
  apply ya1
  rw [← hU,zhu]
  exact ykf hA1 hs32
 obtain ⟨L,hL⟩:∃ L,(digs UU).length=L:=⟨_,rfl⟩
 rw [hL] at hLU
 have HL:=hid hL
 have HV:=hid hV
 have HU:=hid hU
 have HV0:Hid (0 < V):=by rw [← hV]; exact Nat.mul_pos HVL.out.2 (zih s)
 clear h h' NT htt ht hB0 hle hV hU hA1 hL
 go_enter Tryz.func133,Tryz.ntmps133
 go_wp2_with fail
 refine LZ.out.mono ?_
 rintro en w' ⟨rfl,rfl⟩
 go_wp2_with fail
 refine U1.out.mono ?_
 rintro en W1 ⟨pv,cv,rfl,R1⟩
 rw [TH.out.1]
 have HSV:=hid R1.sl
 rw [TH.out.1] at HSV
 have HR1:=hid R1.below
 clear R1 U1 LZ hcell
 obtain ⟨W2,hW2⟩:∃ W2,W2=W1.alloc (.cells (U (List.replicate (la+1) 0)).toArray 64):=⟨_,rfl⟩
 obtain ⟨gu,hgu⟩:∃ gu,gu=W1.heap.size:=⟨_,rfl⟩
 have HB2:=hid (show Below W1.heap.size W1 W2 from by rw [hW2]; exact (Below.refl _ _).alloc (zha _) _)
 have HG2:=hid (show Blk W2 gu (List.replicate (la+1) 0) from by rw [hW2,hgu]; exact heap_alloc_last _ _)
 have M1':=M1 W1
 rw [← hW2,← hgu] at M1'
 have U2:=ze5 W2 p la c A s ((HX.out.below HR1.out).below HB2.out) hs32 (by omega)
 rw [HU.out,HL.out] at U2
 have HU2:=hid U2
 have HGU:=hid hgu
 clear M1 hW2 hgu U2
 go_wp2_with fail
 refine HU2.out.mono ?_
 rintro en W3 ⟨pa,ca,rfl,R2⟩
 have HSV3:=hid ((HSV.out.below HB2.out).below R2.below)
 have HG3:=hid (HG2.out.below R2.below)
 have hcp:=fun ty=>yig W3 ty gu L (la+1) ca pa (digs UU) (List.replicate (la+1) 0) HL.out (by simp) hLU R2.sl.lie HG3.out R2.sl.nil
 obtain ⟨X0,hX0⟩:∃ X0,digs UU ++ (List.replicate (la+1) 0).drop L=X0:=⟨_,rfl⟩
 rw [hX0] at hcp
 obtain ⟨W4,hW4⟩:∃ W4,W4=W3.setRow gu (U X0).toArray:=⟨_,rfl⟩
 rw [← hW4] at hcp
 have HWR:Hid (Wr W3 gu X0 W4):=⟨0,hW4⟩
 have HX0:Hid (X0.length=la+1/\Ok X0/\val X0=UU):=by
  rw [← hX0]
  refine ⟨?_,?_,?_⟩
  ·have:=HL.out
   simp
   omega
  ·exact (ybo _).append ((Ok.replicate _).drop _)
  ·rw [List.drop_replicate,yb7,yct,zin,zif,yaf]
 have HR2:=hid R2.below
 clear hW4 hX0 R2 HU2
 obtain ⟨W5,hW5⟩:∃ W5,W5=W4.alloc (.cells (U (List.replicate (e+1) 0)).toArray 64):=⟨_,rfl⟩
 obtain ⟨gq,hgq⟩:∃ gq,gq=W4.heap.size:=⟨_,rfl⟩
 have HB5:=hid (show Below W4.heap.size W4 W5 from by rw [hW5]; exact (Below.refl _ _).alloc (zha _) _)
 have HG5:=hid (show Blk W5 gq (List.replicate (e+1) 0) from by rw [hW5,hgq]; exact heap_alloc_last _ _)
 have M2':=M2 W4
 rw [← hW5,← hgq] at M2'
 have HGQ:=hid hgq
 clear M2 hW5 hgq
 have HS4:Hid (Sl W4 pv n cv (digs V)):=⟨HSV3.out.len,HSV3.out.cap,HSV3.out.max,HSV3.out.nil,HSV3.out.ok,HWR.out.limbs HSV3.out.lie (HSV.out.apart (by rw [HGU.out]; exact zha _))⟩
 have HAU:Hid (Apart pv (digs V) gu):=HSV.out.apart (by rw [HGU.out]; exact zha _)
 have HAQ:Hid (Apart pv (digs V) gq):=HS4.out.apart (by rw [HGQ.out]; exact zha _)
 have HG4:Hid (Blk W4 gu X0):=Wr.blk HG3.out HWR.out
 have HNE:Hid (gu≠gq):=by
  have:=HG4.out.size
  have:=HGQ.out
  show gu≠gq
  omega
 have HWU:Hid (w'.heap.size<=gu):=by rw [HGU.out]; exact HR1.out.size
 have hb4:Below w'.heap.size w' W4:=HWR.out.below (HR1.out.trans ((HB2.out.mono HR1.out.size).trans (HR2.out.mono (zhb HR1.out.size HB2.out.size)))) HWU.out
 have HWQ:Hid (w'.heap.size<=gq):=by rw [HGQ.out]; exact hb4.size
 have HST:Hid (Lg w' W5 gu gq pv cv n e V UU 0 X0 []):=by
  refine ⟨hb4.trans (HB5.out.mono hb4.size),HG4.out.below HB5.out,by simpa using HG5.out,HS4.out.below HB5.out,HX0.out.2.1,Ok.nil,by rw [HX0.out.1]; omega,rfl,?_,by rw [HX0.out.2.2,show val ([]:List Nat)=0 from rfl,zin,zif]⟩
  rw [HX0.out.2.2]
  have:=LS.out
  rw [show la-n+1=e+1-0 from by omega] at this
  exact this
 clear hb4 HG4 HS4 HG5 HB5 HWR HR2 HG3 HSV3 HG2 HB2 HR1 HSV LS HX0
 go_wp2_with fail
 go_loopw [41] (fun i wr=>∃ k:Nat,k<=e+1/\i=.int .i64 k/\∃ X Q:List Nat,Hid (Lg w' wr gu gq pv cv n e V UU k X Q)) (fun i _=>e+1-(intOf i).toNat)
 case atStart=>exact ⟨0,zhs _,rfl,X0,[],HST.out⟩
 case round =>
  obtain ⟨k,hk,rfl,X,Q,HI⟩:=hrel
  by_cases hlt:k < e+1
  ·clear HST
   have hjl:(X.take (e-k)).length=e-k:=by have:=HI.out.lx; simp; omega
   obtain ⟨c1,c2,c3,c4⟩:=ywk (j:=e-k) (n:=n) (i:=k) HI.out.ox (by have:=HI.out.lx; omega) HVB.out (by have:=HI.out.less; rw [show e+1-k=e-k+1 from by omega] at this; exact this)
   have HC:=hid (And.intro c1 (And.intro c2 (And.intro c3 c4)))
   have e0:X.take (e-k) ++ (X.drop (e-k)).take (n+1) ++ (X.drop (e-k)).drop (n+1)=X:=by rw [zhr,zix,zix]
   have D1:=yzs wr gu (X.take (e-k)) ((X.drop (e-k)).take (n+1)) ((X.drop (e-k)).drop (n+1)) n (n+1) (la+1-(e-k)) pv cv (digs V) (by have:=HI.out.lx; simp; omega) rfl (by omega) (by unfold maxLen; omega)
    (by rw [e0]; exact HI.out.bu) ((HI.out.ox.drop _).take _) HI.out.sv HAU.out hn2 TH.out.2 (by rw [yaf]; exact c4)
   rw [hjl,yaf] at D1
   obtain ⟨M,hM⟩:∃ M,(X.drop (e-k)).take (n+1)=M:=⟨_,rfl⟩
   obtain ⟨T,hT⟩:∃ T,(X.drop (e-k)).drop (n+1)=T:=⟨_,rfl⟩
   obtain ⟨O,hO⟩:∃ O,X.take (e-k)=O:=⟨_,rfl⟩
   rw [hM,hT,hO] at D1 e0
   rw [hM,hT,hO] at HC
   rw [hO] at hjl
   have HD1:=hid D1
   have HE0:=hid e0
   have HOL:=hid hjl
   have HML:Hid (M.length=n+1):=by rw [← hM]; have:=HI.out.lx; show _=_; simp; omega
   have HOT:Hid (Ok O/\Ok T):=by rw [← hO,← hT]; exact ⟨HI.out.ox.take _,(HI.out.ox.drop _).drop _⟩
   have hln:e-k+n+1-(e-k)=n+1:=by omega
   clear c1 c2 c3 c4 D1 e0 hjl hM hT hO
   go_wp2_with fail
   try rw [hln]
   refine HD1.out.mono ?_
   rintro en w2 ⟨Z,z1,z2,z3,rfl,z5⟩
   have hbq2:Blk w2 gq (List.replicate (e+1-k) 0 ++ Q):=(z5.other (Ne.symm HNE.out)).trans HI.out.bq
   have hc2:=hbq2.cell (e-k) (by have:=HI.out.lq; simp; omega)
   have hf2:=hbq2.frozen (e-k)
   obtain ⟨v0,hv0⟩:∃ v0,(List.replicate (e+1-k) 0 ++ Q).getD (e-k) 0=v0:=⟨_,rfl⟩
   rw [hv0] at hc2
   obtain ⟨qd,hqd⟩:∃ qd,val M / V=qd:=⟨_,rfl⟩
   have hqb:qd < 4294967296:=by
    rw [← hqd]
    exact zik HC.out.2.2.2
   rw [hqd]
   have HZ:=hid (And.intro z1 (And.intro z2 (And.intro z3 z5)))
   have HQD:=hid hqd
   have HBQ2:=hid hbq2
   clear z1 z2 z3 z5 hbq2 hv0 HD1 hqd hln
   go_wp2
   go_roundw
   case rel =>
    obtain ⟨z1,z2,z3,z5⟩:=HZ.out
    have w1:=Wr.set HBQ2.out (Wr.refl HBQ2.out) (e-k) qd
    have er:(List.replicate (e+1-k) 0 ++ Q).set (e-k) qd=List.replicate (e+1-(k+1)) 0 ++ (qd :: Q):=by
     have s1:=yfy (List.replicate (e-k) 0) [] Q [] 0 0 qd rfl
     simp only [zir,zh8,zif,zhz,zis] at s1
     rw [show e+1-k=(e-k)+1 from by omega,zji,zhr,zis,s1,show e+1-(k+1)=e-k from by omega]
    rw [er] at w1
    have hK:4294967296 ^ (e+1-k)=4294967296 ^ (e-k)*4294967296:=by rw [show e+1-k=(e-k)+1 from by omega,zhu]
    have hx':val (O ++ Z ++ T)=val O+4294967296 ^ (e-k)*(val M % V):=by
     rw [zhr,yb7,yb7,HC.out.2.2.1,zin,zif,HOL.out,z3]
    refine ⟨k+1,by omega,by go_num,O ++ Z ++ T,qd :: Q,?_⟩
    refine ⟨w1.below (z5.below HI.out.bel HWU.out) HWQ.out,?_,Wr.blk HBQ2.out w1,?_,(HOT.out.1.append z2).append HOT.out.2,Ok.cons hqb HI.out.oq,?_,by simp [HI.out.lq],?_,?_⟩
    ·show _=_
     rw [w1.other HNE.out]
     exact Wr.blk HI.out.bu z5
    ·exact ⟨HI.out.sv.len,HI.out.sv.cap,HI.out.sv.max,HI.out.sv.nil,HI.out.sv.ok,w1.limbs (z5.limbs HI.out.sv.lie HAU.out) HAQ.out⟩
    ·have h1:=congrArg List.length HE0.out
     have h2:=HI.out.lx
     have h3:=HI.out.lx
     simp only [zhx] at h1 ⊢
     have h4:M.length=n+1:=HML.out
     omega
    ·rw [hx',show e+1-(k+1)=e-k from by omega]
     exact ys8 HC.out.1 HV0.out
    ·rw [hx',show e+1-(k+1)=e-k from by omega]
     simp only [val]
     rw [← HQD.out]
     apply ys9
     have:=HI.out.same
     rw [HC.out.2.1,hK] at this
     exact this
   case measure=>simp [intOf]; omega
  ·have hke:k=e+1:=by omega
   subst hke
   have l1:=HI.out.less
   have l2:=HI.out.same
   rw [zio,Nat.pow_zero,zi2] at l1 l2
   obtain ⟨q1,q2⟩:=ypn (a:=val A) (b:=val B) (S:=2 ^ s) (by rw [HU.out]; exact l2) l1 HV.out.symm (zih s)
   have bq:=HI.out.bq
   rw [zio,zjk,zh8] at bq
   have T1:=hid (ycz wr (some ⟨gq,0,none⟩) (e+1) (e+1) (digs (val A / val B)).length Q (by rw [q1]) ⟨HI.out.lq,zha _,by unfold maxLen; omega,(fun e=>by cases e),HI.out.oq,bq.limbs⟩)
   have SU:Sl wr (some ⟨gu,0,none⟩) (la+1) (la+1) X:=⟨by rw [HI.out.lx]; omega,zha _,by unfold maxLen; omega,(fun e=>by cases e),HI.out.ox,HI.out.bu.limbs⟩
   obtain ⟨Lx,hLx⟩:∃ Lx,(digs (val X)).length=Lx:=⟨_,rfl⟩
   have hLx2:Lx<=la+1:=by rw [← hLx]; exact SU.dl
   have T2:=hid (ycz wr (some ⟨gu,0,none⟩) (la+1) (la+1) Lx X hLx SU)
   have SD:=SU.digs
   rw [hLx] at SD
   have DN:=yzu wr (some ⟨gu,0,none⟩) Lx (la+1) (digs (val X)) s SD hs32 (by omega)
   rw [yaf,q2,Nat.mul_div_cancel _ (zih s)] at DN
   have HDN:=hid DN
   have RQ:=hid (Res.row (w:=w') (w':=wr) HI.out.bel bq HI.out.oq q1 HWQ.out HI.out.lq (by unfold maxLen; omega))
   have HBE:=hid HI.out.bel
   clear l1 l2 q1 q2 bq SU hLx SD DN HI HST HX hcp
   go_wp2_with fail
   refine T1.out.mono ?_
   rintro en w3 ⟨rfl,rfl⟩
   go_wp2_with fail
   refine T2.out.mono ?_
   rintro en w3 ⟨rfl,rfl⟩
   go_wp2_with fail
   refine HDN.out.mono ?_
   rintro en w4 ⟨r,cr,rfl,R⟩
   go_wp2
   go_ret2
   exact ⟨_,_,r,cr,rfl,RQ.out.later R.below,R.since HBE.out,Two.later (w:=w') RQ.out.in R⟩
theorem yoc {a b:Nat}(h:(digs a).length < (digs b).length):a < b:=by
 have h1:=ycn a
 have hb:b≠0:=by
  intro e
  rw [e] at h
  simp [yc8] at h
 have h2:=yjg hb
 have h3:4294967296 ^ (digs a).length<=4294967296 ^ ((digs b).length-1):=zhp (by omega) (by omega)
 omega
theorem yv7 (w:World)(p q:Option Addr)(n c m d:Nat)(xs ys:List Nat)(h:Sl w p n c xs)(h':Sl w q m d ys)(hs:n<=70368744177664)(hl:(digs (val xs)).length < (digs (val ys)).length):
  Calls Tryz.prog 121 #[.slice p n c,.slice q m d] w fun e w'=>∃ r cr s cs,e=.returned (.tuple #[.slice r (digs (val xs / val ys)).length cr,.slice s (digs (val xs % val ys)).length cs,.int .i64 0])/\Res w w' r cr (val xs / val ys)/\Res w w' s cs (val xs % val ys)/\Two r s:=by
 have hlt:=yoc hl
 rw [zi8 hlt,zi7 hlt]
 obtain ⟨la,hla⟩:∃ la,(digs (val xs)).length=la:=⟨_,rfl⟩
 obtain ⟨lb,hlb⟩:∃ lb,(digs (val ys)).length=lb:=⟨_,rfl⟩
 rw [hla,hlb] at hl
 have hdl:=h.dl
 rw [hla] at hdl
 have T1:=hid (ycz w p n c la xs hla h)
 have T2:=hid (ycz w q m d lb ys hlb h')
 have S1:=h.digs
 have S2:=h'.digs
 rw [hla] at S1
 rw [hlb] at S2
 have N1:=ypp w p la c (digs (val xs)) S1 (by omega)
 rw [yaf,hla] at N1
 have HN1:=hid N1
 have hm:=h.max
 have hm':=h'.max
 have hlan:la<=c:=S1.cap
 have hlbm:lb<=d:=S2.cap
 unfold maxLen at hm hm'
 have HLA:=hid hla
 rw [hla]
 have hlb1:((lb:Int) == 0)=false:=beq_eq_false_iff_ne.2 (by omega)
 clear h h' S1 S2 hla hlb N1 hlt
 go_enter Tryz.func121,Tryz.ntmps121
 go_wp2_with fail
 refine T1.out.mono ?_
 rintro e w' ⟨rfl,rfl⟩
 go_wp2_with fail
 refine T2.out.mono ?_
 rintro e w' ⟨rfl,rfl⟩
 go_wp2_with fail
 refine HN1.out.mono ?_
 rintro e w2 ⟨rfl,hw2⟩
 have hb:Below w'.heap.size w' w2:=by rw [hw2]; exact (Below.refl _ _).alloc (zha _) _
 have hg:Blk w2 w'.heap.size (digs (val xs)):=by rw [hw2]; exact heap_alloc_last _ _
 have HR:=hid (Res.row hb hg (ybo _) (yaf _) (zha _) HLA.out (by unfold maxLen; omega))
 have HR0:=hid (Res.nil hb)
 clear hw2 hb hg
 go_wp2
 go_ret3
 exact ⟨none,0,_,_,rfl,HR0.out,HR.out,Two.void _⟩
theorem ypr {ys:List Nat}(h:(digs (val ys)).length=1):digs (val ys)=[val ys]/\val ys < 4294967296:=by
 have h1:=yaf (val ys)
 have h2:=ybo (val ys)
 match hd:digs (val ys),h with
 | [x],_ =>
  rw [hd] at h1 h2
  rw [ye9] at h1
  subst h1
  exact ⟨rfl,h2.head⟩
theorem div_one (w:World)(p q:Option Addr)(n c m d:Nat)(xs ys:List Nat)(h:Sl w p n c xs)(h':Sl w q m d ys)(hs:n<=70368744177664)(hl2:2 < (digs (val xs)).length)(hl:(digs (val ys)).length=1):
  Calls Tryz.prog 121 #[.slice p n c,.slice q m d] w fun e w'=>∃ r cr s cs,e=.returned (.tuple #[.slice r (digs (val xs / val ys)).length cr,.slice s (digs (val xs % val ys)).length cs,.int .i64 0])/\Res w w' r cr (val xs / val ys)/\Res w w' s cs (val xs % val ys)/\Two r s:=by
 obtain ⟨la,hla⟩:∃ la,(digs (val xs)).length=la:=⟨_,rfl⟩
 obtain ⟨y,hy⟩:∃ y,val ys=y:=⟨_,rfl⟩
 obtain ⟨o1,o2⟩:=ypr hl
 have hy0:0 < y:=by
  apply zhw
  intro e
  rw [hy,e,yc8] at hl
  simp at hl
 rw [hy] at o1 o2
 have T1:=hid (ycz w p n c la xs hla h)
 have T2:=hid (ycz w q m d 1 ys hl h')
 have S1:=h.digs
 have S2:=h'.digs
 rw [hl,hy,o1] at S2
 rw [hla] at S1 hl2
 have hdl:=h.dl
 rw [hla] at hdl
 have N1:=ypp w p la c (digs (val xs)) S1 (by omega)
 rw [yaf,hla] at N1
 have HN1:=hid N1
 have hm:=h.max
 have hm':=h'.max
 have hlan:la<=c:=S1.cap
 have hlbm:1<=d:=S2.cap
 unfold maxLen at hm hm'
 have HLA:=hid hla
 rw [hy]
 obtain ⟨rr,hrr⟩:∃ rr,val xs % y=rr:=⟨_,rfl⟩
 rw [hrr]
 have HRR:=hid hrr
 clear hrr
 obtain ⟨b0,o0,rfl,hcell⟩:=S2.lie 0 (by simp)
 have hg1:([y]:List Nat).getD 0 0=y:=rfl
 rw [hg1,zif] at hcell
 have HS2:=hid S2
 clear h h' S1 S2 hla N1 hl hy o1 hg1
 go_enter Tryz.func121,Tryz.ntmps121
 go_wp2_with fail
 refine T1.out.mono ?_
 rintro e w' ⟨rfl,rfl⟩
 go_wp2_with fail
 refine T2.out.mono ?_
 rintro e w' ⟨rfl,rfl⟩
 go_wp2_with fail
 refine HN1.out.mono ?_
 rintro e w2 ⟨rfl,hw2⟩
 have hb:Below w'.heap.size w' w2:=by rw [hw2]; exact (Below.refl _ _).alloc (zha _) _
 have hg:Blk w2 w'.heap.size (digs (val xs)):=by rw [hw2]; exact heap_alloc_last _ _
 obtain ⟨b1,o1',he,hcell2⟩:=(HS2.out.below hb).lie 0 (by simp)
 simp only [Option.some.injEq,Addr.mk.injEq] at he
 obtain ⟨rfl,rfl,_⟩:=he
 have hg1:([y]:List Nat).getD 0 0=y:=rfl
 rw [hg1,zif] at hcell2
 obtain ⟨g,hgg⟩:∃ g,g=w'.heap.size:=⟨_,rfl⟩
 have D1:=yq4 w2 g (digs (val xs)) [] la la y HLA.out (zha _) (by unfold maxLen; omega) (by rw [zhz,hgg]; exact hg) (ybo _) hy0 o2
 rw [yaf] at D1
 have hrr:=HRR.out
 have hrb:rr < 4294967296:=by rw [← hrr]; exact Nat.lt_trans (zic _ hy0) o2
 rw [hrr] at D1
 rw [← hgg]
 have HD1:=hid D1
 have HB:=hid hb
 have HG:Hid (Blk w2 g (digs (val xs) ++ [])):=by rw [zhz,hgg]; exact hg
 have HGG:=hid hgg
 clear hw2 hg D1 hcell hg1 hrr HN1 hb hgg
 go_wp2_with fail
 refine HD1.out.mono ?_
 rintro e w3 ⟨Z,z1,z2,z3,rfl,z5⟩
 have hg3:Blk w3 g (Z ++ []):=Wr.blk HG.out z5
 rw [zhz] at hg3
 have hb3:=z5.below HB.out (by rw [HGG.out]; exact zha _)
 have T3:=hid (ycz w3 (some ⟨g,0,none⟩) la la (digs (val xs / y)).length Z (by rw [z3]) ⟨z1,zha _,by unfold maxLen; omega,(fun e=>by cases e),z2,hg3.limbs⟩)
 have HR:=hid (Res.row hb3 hg3 z2 z3 (by rw [HGG.out]; exact zha _) z1 (by unfold maxLen; omega))
 have HB3:=hid hb3
 clear z1 z2 z3 z5 hg3 hb3 HD1 HG HB
 go_wp2_with fail
 refine T3.out.mono ?_
 rintro e w4 ⟨rfl,rfl⟩
 go_wp2_with fail
 refine (ylf _ _ rr (by rfl) (by omega)).mono ?_
 rintro e w5 ⟨s,cs,rfl,R2⟩
 go_wp2
 go_ret3
 exact ⟨_,_,s,cs,rfl,HR.out.later R2.below,R2.since HB3.out,Two.later (w:=w4) HR.out.in R2⟩
theorem yv8 (w:World)(p q:Option Addr)(n c m d:Nat)(xs ys:List Nat)(h:Sl w p n c xs)(h':Sl w q m d ys)(hs:n+1<=70368744177664)(hl2:2 < (digs (val xs)).length)(hl:2<=(digs (val ys)).length)(hle:(digs (val ys)).length<=(digs (val xs)).length):
  Calls Tryz.prog 121 #[.slice p n c,.slice q m d] w fun e w'=>∃ r cr s cs,e=.returned (.tuple #[.slice r (digs (val xs / val ys)).length cr,.slice s (digs (val xs % val ys)).length cs,.int .i64 0])/\Res w w' r cr (val xs / val ys)/\Res w w' s cs (val xs % val ys)/\Two r s:=by
 obtain ⟨la,hla⟩:∃ la,(digs (val xs)).length=la:=⟨_,rfl⟩
 obtain ⟨lb,hlb⟩:∃ lb,(digs (val ys)).length=lb:=⟨_,rfl⟩
 have T1:=hid (ycz w p n c la xs hla h)
 have T2:=hid (ycz w q m d lb ys hlb h')
 have S1:=h.digs
 have S2:=h'.digs
 rw [hla] at S1 hl2 hle
 rw [hlb] at S2 hl hle
 have hdl:=h.dl
 rw [hla] at hdl
 have htop:(digs (val ys)).getD (lb-1) 0≠0:=by
  rcases yhp (val ys) with h0 | h0
  ·rw [h0] at hlb
   simp at hlb
   omega
  ·rw [hlb] at h0
   exact h0
 have D1:=ysh w p q la c lb d (la-lb) (digs (val xs)) (digs (val ys)) (by omega) S1 S2 hl htop (by omega)
 rw [yaf,yaf] at D1
 have HD1:=hid D1
 have hm:=h.max
 have hm':=h'.max
 have hlan:la<=c:=S1.cap
 have hlbm:lb<=d:=S2.cap
 unfold maxLen at hm hm'
 have hlb1:((lb:Int) == 0)=false:=beq_eq_false_iff_ne.2 (by omega)
 have hlb2:((lb:Int) == 1)=false:=beq_eq_false_iff_ne.2 (by omega)
 clear h h' S1 S2 hla hlb D1 htop
 go_enter Tryz.func121,Tryz.ntmps121
 go_wp2_with fail
 refine T1.out.mono ?_
 rintro e w' ⟨rfl,rfl⟩
 go_wp2_with fail
 refine T2.out.mono ?_
 rintro e w' ⟨rfl,rfl⟩
 go_wp2_with fail
 refine HD1.out.mono ?_
 rintro e w2 ⟨r,cr,s,cs,rfl,R1,R2,R3⟩
 go_wp2
 go_ret3
 exact ⟨r,cr,s,cs,rfl,R1,R2,R3⟩
theorem ysi (w:World)(p q:Option Addr)(n c m d:Nat)(xs ys:List Nat)(h:Sl w p n c xs)(h':Sl w q m d ys)(hy:val ys≠0)(h2:(digs (val xs)).length<=2)(hl:(digs (val ys)).length<=(digs (val xs)).length):
  Calls Tryz.prog 121 #[.slice p n c,.slice q m d] w fun e w'=>∃ r cr s cs,e=.returned (.tuple #[.slice r (digs (val xs / val ys)).length cr,.slice s (digs (val xs % val ys)).length cs,.int .i64 0])/\Res w w' r cr (val xs / val ys)/\Res w w' s cs (val xs % val ys)/\Two r s:=by
 obtain ⟨la,hla⟩:∃ la,(digs (val xs)).length=la:=⟨_,rfl⟩
 obtain ⟨lb,hlb⟩:∃ lb,(digs (val ys)).length=lb:=⟨_,rfl⟩
 rw [hla] at h2 hl
 rw [hlb] at hl
 have hlb0:0 < lb:=by
  apply zhw; intro e; exact hy ((ya2 _).1 (hlb.trans e))
 have T1:=hid (ycz w p n c la xs hla h)
 have T2:=hid (ycz w q m d lb ys hlb h')
 have S1:=h.digs
 have S2:=h'.digs
 rw [hla] at S1
 rw [hlb] at S2
 have W1:=hid (ykx w p la c (digs (val xs)) S1 h2)
 have W2:=hid (ykx w q lb d (digs (val ys)) S2 (by omega))
 rw [yaf] at W1 W2
 have hx64:=ygs (ybo (val xs)) (by rw [hla]; exact h2)
 have hy64:=ygs (ybo (val ys)) (by rw [hlb]; omega)
 rw [yaf] at hx64 hy64
 have hm:=h.max
 have hm':=h'.max
 have hlan:la<=c:=S1.cap
 have hlbm:lb<=d:=S2.cap
 unfold maxLen at hm hm'
 clear S1 S2 h h' hla hlb
 generalize val xs=x at *
 generalize val ys=y at *
 obtain ⟨qq,hqq⟩:∃ qq,x / y=qq:=⟨_,rfl⟩
 obtain ⟨rr,hrr⟩:∃ rr,x % y=rr:=⟨_,rfl⟩
 have hq:(x:Int) / (y:Int)=(qq:Int):=by rw [← hqq]; exact (zj1 x y).symm
 have hr:(x:Int).tmod (y:Int)=(rr:Int):=by rw [← hrr]; exact (Int.ofNat_tmod x y).symm
 have hqb:qq < 18446744073709551616:=by rw [← hqq]; exact zij (zia _ _) hx64
 have hrb:rr < 18446744073709551616:=by rw [← hrr]; exact zij (Nat.mod_le _ _) hx64
 rw [hqq,hrr]
 have hy0:((y:Int) == 0)=false:=beq_eq_false_iff_ne.2 (by omega)
 have hlb1:((lb:Int) == 0)=false:=beq_eq_false_iff_ne.2 (by omega)
 clear hqq hrr
 go_enter Tryz.func121,Tryz.ntmps121
 go_wp2_with fail
 refine T1.out.mono ?_
 rintro e w' ⟨rfl,rfl⟩
 go_wp2_with fail
 refine T2.out.mono ?_
 rintro e w' ⟨rfl,rfl⟩
 go_wp2_with fail
 refine W1.out.mono ?_
 rintro e w' ⟨rfl,rfl⟩
 go_wp2_with fail
 refine W2.out.mono ?_
 rintro e w' ⟨rfl,rfl⟩
 go_wp2_with fail
 clear T1 T2 W1 W2
 go_region_with (first
  | (go_at_call 129; refine (ylf _ _ qq (by rw [IntKind.wrap_u64]; omega) hqb).mono ?_; rintro e w1 ⟨r,cr,rfl,R1⟩)
  | (go_at_call 129; refine (ylf _ _ rr (by rfl) hrb).mono ?_; rintro e w2 ⟨s,cs,rfl,R2⟩))
 all_goals go_wp2
 all_goals go_ret3
 all_goals first
  | exact ⟨r,cr,s,cs,rfl,(R1.later R2.below).since (Below.refl _ _).drew,R2.since ((Below.refl w'.heap.size w').drew.trans R1.below),Two.later (w:=w') R1.in R2⟩
  | exact ⟨r,cr,s,cs,rfl,R1.since ((Below.refl w'.heap.size w').drew.trans R2.below),(R2.later R1.below).since (Below.refl _ _).drew,Two.sooner (w:=w') R2.in R1⟩
theorem yn8 (w:World)(p q:Option Addr)(n c m d:Nat)(xs ys:List Nat)(h:Sl w p n c xs)(h':Sl w q m d ys)(hy:val ys≠0)(hs:n+1<=70368744177664):
  Calls Tryz.prog 121 #[.slice p n c,.slice q m d] w fun e w'=>∃ r cr s cs,e=.returned (.tuple #[.slice r (digs (val xs / val ys)).length cr,.slice s (digs (val xs % val ys)).length cs,.int .i64 0])/\Res w w' r cr (val xs / val ys)/\Res w w' s cs (val xs % val ys)/\Two r s:=by
 have h0:(digs (val ys)).length≠0:=fun e=>hy ((ya2 _).1 e)
 by_cases h1:(digs (val xs)).length < (digs (val ys)).length
 ·exact yv7 w p q n c m d xs ys h h' (by omega) h1
 by_cases h2:(digs (val xs)).length<=2
 ·exact ysi w p q n c m d xs ys h h' hy h2 (by omega)
 by_cases h3:(digs (val ys)).length=1
 ·exact div_one w p q n c m d xs ys h h' (by omega) (by omega) h3
 exact yv8 w p q n c m d xs ys h h' hs (by omega) (by omega) (by omega)
end Go.Proofs.YtdnindaohpdblaaGreat
