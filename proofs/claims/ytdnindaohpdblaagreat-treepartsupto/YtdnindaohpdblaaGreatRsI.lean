import Derived.Test.YtdnindaohpdblaaGreatDiffer
import Derived.Test.YtdnindaohpdblaaGreatSetB
set_option linter.all false
namespace Go.Proofs.YtdnindaohpdblaaGreat
open Go.RowKit Nt
set_option maxRecDepth 20000
set_option maxHeartbeats 16000000
theorem orP64 (l t P q:Nat)(hP:∃ s,P=2 ^ s)(ht:t < P)(hl:l=q*P)(hb:l+t < 18446744073709551616):bits .or .u64 (l:Int) (t:Int)=((l+t:Nat):Int):=by
 obtain ⟨s,rfl⟩:=hP
 subst hl
 rw [u64_or_nat (q*2 ^ s) t (by omega) (by omega)]
 have:q*2 ^ s ||| t=q*2 ^ s+t:=by rw [← Nat.shiftLeft_eq,zjp ht]
 rw [this]
theorem yqj (w:World)(p:Option Addr)(m c:Nat)(xs:List Nat)(n s d1 d2 d3:Nat)(h:Sl w p m c xs)(hn:3<=n)(hn':n<=70368744177664)(hs:s < 32)
  (h1:xs.getD (n-1) 0=d1) (h2:xs.getD (n-2) 0=d2) (h3:xs.getD (n-3) 0=d3) (hd:d1*2 ^ s < 4294967296):
  Calls Tryz.prog 149 #[.slice p m c,.int .i64 n,.int .i64 s] w fun e w'=>e=.returned (.int .u64 ((d1*4294967296+d2)*2 ^ s+d3 / 2 ^ (32-s):Nat))/\∃ nq,w'=w.drewN nq:=by
 have L1:=ymw w p m c xs h (n-1) (by omega)
 have L2:=ymw w p m c xs h (n-2) (by omega)
 have L3:∀ k,Calls Tryz.prog 150 #[.slice p m c,.int .i64 (n-3:Nat)] (w.drewN k) fun e w'=>e=.returned (.int .u32 (xs.getD (n-3) 0:Nat))/\w'=w.drewN k:=fun k=>ymw (w.drewN k) p m c xs (h.below (ybq (Below.refl _ _) k)) (n-3) (by omega)
 have b1:d1 < 4294967296:=by rw [← h1]; exact h.ok.getD _
 have b2:d2 < 4294967296:=by rw [← h2]; exact h.ok.getD _
 have b3:d3 < 4294967296:=by rw [← h3]; exact h.ok.getD _
 rw [h1,show ((n-1:Nat):Int)=(n:Int)-1 from by omega] at L1
 rw [h2,show ((n-2:Nat):Int)=(n:Int)-1-1 from by omega] at L2
 rw [h3,show ((n-3:Nat):Int)=(n:Int)-3 from by omega] at L3
 obtain ⟨P,hP⟩:∃ P,2 ^ s=P:=⟨_,rfl⟩
 obtain ⟨r,hr⟩:∃ r,32-s=r:=⟨_,rfl⟩
 obtain ⟨R,hR⟩:∃ R,2 ^ r=R:=⟨_,rfl⟩
 obtain ⟨V,hV⟩:∃ V,d1*4294967296+d2=V:=⟨_,rfl⟩
 rw [hP] at hd
 rw [hr,hP,hR,hV]
 have hPi:(2:Int) ^ s=(P:Int):=by rw [← hP]; simp
 have hRi:(2:Int) ^ r=(R:Int):=by rw [← hR]; simp
 have hri:(32:Int)-(s:Int)=(r:Int):=by omega
 have hrb:r<=32:=by omega
 have hPR:P*R=4294967296:=by rw [← hP,← hR,← zit,show s+r=32 from by omega]
 have hP0:0 < P:=by rw [← hP]; exact zih s
 have hR0:0 < R:=by rw [← hR]; exact zih r
 have hVP:V*P+P<=18446744073709551616:=by
  have e:P*R*P*R=18446744073709551616:=by rw [zhk,hPR]
  have h4:d1*P+P<=4294967296:=by
   have hdR:d1 < R:=by
    apply Nat.lt_of_mul_lt_mul_right (a:=P)
    rw [zhd R P,hPR]; exact hd
   have:=zhn P (show d1+1<=R from hdR)
   rw [zhv,ziv,zhd R P,hPR] at this
   exact this
  have h5:(V+1)*P<=(d1+1)*4294967296*P:=zhn P (by omega)
  have h6:(d1+1)*4294967296*P=(d1*P+P)*4294967296:=by grind
  rw [h6,zhv V 1 P,ziv] at h5
  omega
 have hVP1:(V:Int)*(P:Int)<=18446744073709551615:=by rw [← zho]; omega
 have hVP0:0<=(V:Int)*(P:Int):=by rw [← zho]; omega
 have HP:=hid hP
 have HV:=hid hV
 have HPR:=hid hPR
 have HR:=hid hR
 have HVP:=hid hVP
 clear hPR hP hV hR hVP
 have H1:=hid L1
 have H2:=hid L2
 have H3:=hid L3
 clear L1 L2 L3 h1 h2 h3 h hr
 go_enter Tryz.func149,Tryz.ntmps149
 go_wp2_with fail
 go_loop [7,9] (fun v i=>(i=.int .i64 0/\v=.int .u64 0)\/(i=.int .i64 1/\v=.int .u64 d1)\/(i=.int .i64 2/\v=.int .u64 V)) (fun _ i=>2-(intOf i).toNat)
 case atStart=>exact .inl ⟨rfl,rfl⟩
 case round =>
  rcases hrel with ⟨rfl,rfl⟩ | ⟨rfl,rfl⟩ | ⟨rfl,rfl⟩
  ·go_wp2_with (first | (go_at_call_of 150 (Value.slice p m c); refine H1.out.mono ?_; rintro e w1 ⟨rfl,rfl⟩))
   exact ⟨.inr (.inl ⟨rfl,by rw [ym0 _ b1]⟩),by simp [intOf]⟩
  ·go_wp2_with (first | (go_at_call_of 150 (Value.slice p m c); refine H2.out.mono ?_; rintro e w1 ⟨rfl,rfl⟩))
   exact ⟨.inr (.inr ⟨rfl,by rw [or64' _ _ b2 b1,← HV.out,zjt,zhd]⟩),by simp [intOf]⟩
  ·go_wp2_with fail
   go_quiet ((go_at_call 150; exact (H3.out _).mono (fun _ _ h=>⟨h.1,_,h.2⟩)))
   go_wp2
   go_ret
   have ht:d3 / R < P:=by
    apply zik
    have:=HPR.out
    rw [zhd R P]
    omega
   have hv:=HVP.out
   refine ⟨?_,dr1 _ _⟩
   show Ending.returned (Value.int IntKind.u64 (bits BinOp.or IntKind.u64 ((V:Int)*(P:Int)) ((d3:Int) / (R:Int))))=_
   refine ydf ?_
   rw [← zho,← zj1]
   exact orP64 (V*P) (d3 / R) P V ⟨s,HP.out.symm⟩ ht rfl (by omega)
theorem yqi (xs:List Nat)(n:Nat)(hn:3<=n)(hl:xs.length<=n):val xs=val (xs.take (n-3))+4294967296 ^ (n-3)*(xs.getD (n-3) 0+4294967296*xs.getD (n-2) 0+4294967296*4294967296*xs.getD (n-1) 0):=by
 obtain ⟨k,rfl⟩:∃ k,n=k+3:=⟨n-3,by omega⟩
 have e1:=yd2 xs k
 have e2:=yd2 xs (k+1)
 have e3:=yd2 xs (k+2)
 rw [zhg (show xs.length<=k+2+1 from by omega)] at e3
 rw [show k+3-3=k from by omega,show k+3-2=k+1 from by omega,show k+3-1=k+2 from by omega,e3,e2,e1,zhu 4294967296 (k+1),zhu 4294967296 k]
 generalize 4294967296 ^ k=K
 grind
theorem yu7 (xs:List Nat)(k:Nat)(h:Ok xs):val (xs.take k) < 4294967296 ^ k:=by
 have h1:=yc1 (h.take k)
 have h2:(xs.take k).length<=k:=by simp; omega
 exact zhe h1 (zhp (by omega) h2)
theorem ykw {V d1 d2 d3 low T P R:Nat}(hPR:P*R=4294967296)(hR:0 < R)(hlow:low < T)(hV:V=low+T*(d3+4294967296*d2+4294967296*4294967296*d1)):
  ∃ v0,v0 < R*T/\V=((d1*4294967296+d2)*P+d3 / R)*(R*T)+v0:=by
 refine ⟨low+T*(d3 % R),?_,?_⟩
 ·have h1:d3 % R+1<=R:=zic _ hR
  have h2:T*(d3 % R+1)<=T*R:=zhm T h1
  rw [zht,zi2] at h2
  rw [zhd R T]
  omega
 ·have h3:=zh9 d3 R
  obtain ⟨q,hq⟩:∃ q,d3 / R=q:=⟨_,rfl⟩
  obtain ⟨t,ht⟩:∃ t,d3 % R=t:=⟨_,rfl⟩
  rw [hq,ht] at h3 ⊢
  rw [hV,← h3]
  have e:(d1*4294967296+d2)*P*(R*T)=(d1*4294967296+d2)*4294967296*T:=by
   rw [← zhk,zhk _ P R,hPR]
  rw [zhv _ q,e]
  grind
theorem yy4 {X Y l l' h h' T:Nat}(hX:X=l+T*h)(hY:Y=l'+T*h')(hl:l < T)(hle:Y<=X):h'<=h:=by
 apply Classical.byContradiction
 intro hn
 have h1:T*(h+1)<=T*h':=zhm T (by omega)
 rw [zht,zi2] at h1
 omega
theorem yz8 {A P T q:Nat}(h5:A+P<=T*4294967296)(h4:T<=4294967296)(h1:q < P):A+q < 18446744073709551616:=by omega
theorem zaf {A B q:Nat}(h:2147483648<=A):9223372036854775808<=A*4294967296+B+q:=by omega
def hiS (xs:List Nat)(n:Nat):Nat:=32-Go.bitLen (xs.getD (n-1) 0)
def hiW (ys:List Nat)(n s:Nat):Nat:=(ys.getD (n-1) 0*4294967296+ys.getD (n-2) 0)*2 ^ s+ys.getD (n-3) 0 / 2 ^ (32-s)
def lookN (xs ys:List Nat)(n:Nat):Nat × Nat × Nat × Nat × Bool:=lkE (hiW xs n (hiS xs n)) (hiW ys n (hiS xs n)) 0 0 1 0 0 1 true
theorem ys3 (w:World)(pa pb:Option Addr)(n c m d:Nat)(xs ys:List Nat)(h:Sl w pa n c xs)(h':Sl w pb m d ys)(hn:3<=n)(hn':n<=70368744177664)(ht:xs.getD (n-1) 0≠0)(hmn:m<=n)(hle:val ys<=val xs):
  Calls Tryz.prog 144 #[.slice pa n c,.slice pb m d] w fun e w'=>∃ X Y K x0 y0:Nat,e=.returned (.tuple #[.int .u64 X,.int .u64 Y])/\(∃ nq,w'=w.drewN nq)/\x0 < K/\y0 < K/\val xs=X*K+x0/\val ys=Y*K+y0/\9223372036854775808<=X/\X < 18446744073709551616/\X=hiW xs n (hiS xs n)/\Y=hiW ys n (hiS xs n):=by
 obtain ⟨d1,hd1⟩:∃ x,xs.getD (n-1) 0=x:=⟨_,rfl⟩
 obtain ⟨d2,hd2⟩:∃ x,xs.getD (n-2) 0=x:=⟨_,rfl⟩
 obtain ⟨d3,hd3⟩:∃ x,xs.getD (n-3) 0=x:=⟨_,rfl⟩
 obtain ⟨e1,he1⟩:∃ x,ys.getD (n-1) 0=x:=⟨_,rfl⟩
 obtain ⟨e2,he2⟩:∃ x,ys.getD (n-2) 0=x:=⟨_,rfl⟩
 obtain ⟨e3,he3⟩:∃ x,ys.getD (n-3) 0=x:=⟨_,rfl⟩
 have b1:d1 < 4294967296:=by rw [← hd1]; exact h.ok.getD _
 have b2:d2 < 4294967296:=by rw [← hd2]; exact h.ok.getD _
 have b3:d3 < 4294967296:=by rw [← hd3]; exact h.ok.getD _
 have c1:e1 < 4294967296:=by rw [← he1]; exact h'.ok.getD _
 have c2:e2 < 4294967296:=by rw [← he2]; exact h'.ok.getD _
 have c3:e3 < 4294967296:=by rw [← he3]; exact h'.ok.getD _
 rw [hd1] at ht
 have VX:=yqi xs n hn (by rw [h.len]; exact zha _)
 have VY:=yqi ys n hn (by rw [h'.len]; exact hmn)
 rw [hd1,hd2,hd3] at VX
 rw [he1,he2,he3] at VY
 have lx:=yu7 xs (n-3) h.ok
 have ly:=yu7 ys (n-3) h'.ok
 have hed:e1<=d1:=by
  have:=yy4 VX VY lx hle
  omega
 obtain ⟨s1,s2⟩:=bitLen_spec d1
 have hb32:Go.bitLen d1<=32:=by
  apply Classical.byContradiction
  intro hc
  have h1:=s2 ht
  have h2:2 ^ 32<=2 ^ (Go.bitLen d1-1):=zhp (by omega) (by omega)
  omega
 have hb0:Go.bitLen d1≠0:=by intro e; rw [e] at s1; simp at s1; exact ht s1
 obtain ⟨s,hs⟩:∃ s,s+Go.bitLen d1=32:=⟨32-Go.bitLen d1,by omega⟩
 have hs32:s < 32:=by omega
 have hPR:2 ^ s*2 ^ (32-s)=4294967296:=by rw [← zit,show s+(32-s)=32 from by omega]
 have hd:d1*2 ^ s < 4294967296:=by
  have h1:d1*2 ^ s < 2 ^ Go.bitLen d1*2 ^ s:=zjf s1 (zih s)
  rw [← zit,show Go.bitLen d1+s=32 from by omega] at h1
  exact h1
 have hd':2147483648<=d1*2 ^ s:=by
  have h1:2 ^ (Go.bitLen d1-1)*2 ^ s<=d1*2 ^ s:=zhn _ (s2 ht)
  rw [← zit,show Go.bitLen d1-1+s=31 from by omega] at h1
  exact h1
 have he:e1*2 ^ s < 4294967296:=zij (zhn _ hed) hd
 obtain ⟨x0,hx0,HVX⟩:=ykw hPR (zih _) lx VX
 obtain ⟨y0,hy0,HVY⟩:=ykw hPR (zih _) ly VY
 have WX:=yqj w pa n c xs n s d1 d2 d3 h hn hn' hs32 hd1 hd2 hd3 hd
 have WY:=fun k=>yqj (w.drewN k) pb m d ys n s e1 e2 e3 (h'.below (ybq (Below.refl _ _) k)) hn hn' hs32 he1 he2 he3 he
 obtain ⟨X,hX⟩:∃ X,(d1*4294967296+d2)*2 ^ s+d3 / 2 ^ (32-s)=X:=⟨_,rfl⟩
 obtain ⟨Y,hY⟩:∃ Y,(e1*4294967296+e2)*2 ^ s+e3 / 2 ^ (32-s)=Y:=⟨_,rfl⟩
 have hse:32-Go.bitLen d1=s:=by omega
 have hXe:X=hiW xs n (hiS xs n):=by unfold hiW hiS; rw [hd1,hd2,hd3,hse]; exact hX.symm
 have hYe:Y=hiW ys n (hiS xs n):=by unfold hiW hiS; rw [hd1,he1,he2,he3,hse]; exact hY.symm
 rw [hX] at WX HVX
 rw [hY] at WY HVY
 have hXlo:9223372036854775808<=X:=by
  rw [← hX,zhv,Nat.mul_right_comm]
  exact zaf hd'
 have hXhi:X < 18446744073709551616:=by
  have hP0:=zih s
  have h1:d3 / 2 ^ (32-s) < 2 ^ s:=by
   apply zik
   rw [zhd,hPR]
   exact b3
  have hdR:d1 < 2 ^ (32-s):=by
   apply Nat.lt_of_mul_lt_mul_right (a:=2 ^ s)
   rw [zhd (2 ^ (32-s)),hPR]; exact hd
  have h4:(d1+1)*2 ^ s<=4294967296:=by
   have:=zhn (2 ^ s) (show d1+1<=2 ^ (32-s) from hdR)
   rw [zhd (2 ^ (32-s)),hPR] at this
   exact this
  have h5:(d1*4294967296+d2+1)*2 ^ s<=(d1+1)*4294967296*2 ^ s:=zhn _ (by omega)
  rw [Nat.mul_right_comm,zhv _ 1 (2 ^ s),ziv] at h5
  rw [← hX]
  exact yz8 h5 h4 h1
 have R:∃ X' Y' K x0 y0:Nat,X'=X/\Y'=Y/\x0 < K/\y0 < K/\val xs=X'*K+x0/\val ys=Y'*K+y0/\9223372036854775808<=X'/\X' < 18446744073709551616/\X'=hiW xs n (hiS xs n)/\Y'=hiW ys n (hiS xs n):=⟨X,Y,_,x0,y0,rfl,rfl,hx0,hy0,HVX,HVY,hXlo,hXhi,hXe,hYe⟩
 have LZ:=hid (lz_c w d1 s b1 hs)
 obtain ⟨b,o,rfl,hcell⟩:=h.lie (n-1) (by rw [h.len]; omega)
 rw [hd1] at hcell
 have hm:=h.max
 have hc:=h.cap
 unfold maxLen at hm
 have HR:=hid R
 have HWX:=hid WX
 have HWY:=hid WY
 clear R WX WY hX hY HVX HVY hx0 hy0 hd1 hd2 hd3 he1 he2 he3 VX VY lx ly s1 s2 hPR hd hd' he h h' hle hs hb32 hb0 hed hXlo hXhi hse hXe hYe
 go_enter Tryz.func144,Tryz.ntmps144
 go_wp2_with fail
 refine LZ.out.mono ?_
 rintro e w1 ⟨rfl,rfl⟩
 go_wp2_with fail
 refine HWX.out.mono ?_
 rintro e w2 ⟨rfl,n1,rfl⟩
 go_wp2_with fail
 refine (HWY.out _).mono ?_
 rintro e w3 ⟨rfl,n2,rfl⟩
 go_wp2
 go_ret2
 obtain ⟨X',Y',K,x0,y0,rfl,rfl,q1,q2,q3,q4,q5,q6,q7,q8⟩:=HR.out
 exact ⟨_,_,K,x0,y0,rfl,dr1 _ _,q1,q2,q3,q4,q5,q6,q7,q8⟩
end Go.Proofs.YtdnindaohpdblaaGreat
