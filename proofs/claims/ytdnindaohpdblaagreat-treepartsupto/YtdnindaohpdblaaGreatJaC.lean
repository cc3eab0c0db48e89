import Derived.Shelf.Spec.TrailingZeros
import Derived.Lib.LaidTab
import Derived.Test.YtdnindaohpdblaaGreatRsK
set_option linter.all false
namespace Go.Proofs.YtdnindaohpdblaaGreat
open Go.RowKit Nt
set_option maxRecDepth 20000
set_option maxHeartbeats 16000000
theorem Res.rewritten {w W W':World}{g c:Nat}{D rest Z:List Nat}{A:Nat}(hb:Below w.heap.size w W)(hg:Blk W g (D ++ rest))(hB:w.heap.size<=g)(hc:c=D.length+rest.length)(hm:c<=maxLen)(ho:Ok rest)
  (hZ:Z.length=D.length) (hoZ:Ok Z) (hv:val Z=A) (hw:Wr W g (Z ++ rest) W'):Res w W' (some ⟨g,0,none⟩) c A:=by
 subst hv
 have hblk:=Wr.blk hg hw
 have hd:Z.take (Nt.digs (val Z)).length=Nt.digs (val Z):=yem hoZ
 have hlz:(Nt.digs (val Z)).length<=Z.length:=ycu hoZ
 have hsp:Z ++ rest=Nt.digs (val Z) ++ (Z.drop (Nt.digs (val Z)).length ++ rest):=by
  rw [← zhr]
  congr 1
  conv=>lhs; rw [← zix (Nt.digs (val Z)).length Z]
  rw [hd]
 have hok:Ok (Z.drop (Nt.digs (val Z)).length ++ rest):=(hoZ.drop _).append ho
 have hcl:c=(Nt.digs (val Z)).length+(Z.drop (Nt.digs (val Z)).length ++ rest).length:=by
  rw [zhx,zj0]
  omega
 rw [hsp] at hblk
 refine ⟨hw.below hb hB,⟨rfl,by omega,hm,(fun e=>by cases e),ybo _,?_⟩,fun b o e=>?_⟩
 ·have:=hblk.limbs.take (Nt.digs (val Z)).length
  rwa [List.take_left] at this
 ·simp only [Option.some.injEq,Addr.mk.injEq] at e
  obtain ⟨rfl,rfl,_⟩:=e
  exact ⟨rfl,hB,_,hblk,hok,hcl⟩
end Go.Proofs.YtdnindaohpdblaaGreat

namespace Go.Proofs.YtdnindaohpdblaaGreat.Nt
set_option maxHeartbeats 16000000
theorem amgm (x y:Nat):4*(x*y)<=(x+y)*(x+y):=by
 rcases Nat.le_total x y with h | h
 ·obtain ⟨d,rfl⟩:=Nat.exists_eq_add_of_le h
  have:(x+(x+d))*(x+(x+d))=4*(x*(x+d))+d*d:=by grind
  omega
 ·obtain ⟨d,rfl⟩:=Nat.exists_eq_add_of_le h
  have:(y+d+y)*(y+d+y)=4*((y+d)*y)+d*d:=by grind
  omega
theorem ytl {x t m r:Nat}(hr:2*r=x+2*t)(ht:m < 2*x*(t+1)):m < (r+1)*(r+1):=by
 have h:=amgm x (2*(t+1))
 have e1:x+2*(t+1)=2*(r+1):=by omega
 have e2:2*(r+1)*(2*(r+1))=4*((r+1)*(r+1)):=by grind
 have e3:4*(x*(2*(t+1)))=4*(2*x*(t+1)):=by grind
 rw [e1,e2,e3] at h
 omega
theorem ytk {x D m r t:Int}(h1:(x-D)*(x-D) < m)(h2:m < (x+D)*(x+D))(hD:D*D<=2*x)(ht:2*x*t<=m)(hr:2*r+2=x+2*t)(hx:0<=x)(hr0:0<=r):r*r < m:=by
 apply Classical.byContradiction
 intro hc
 have hc':m<=r*r:=by omega
 have key:(x*x+m-D*D)*(x*x+m-D*D)-4*(x*x)*m=(m-(x-D)*(x-D))*(m-(x+D)*(x+D)):=by grind
 have neg:(m-(x-D)*(x-D))*(m-(x+D)*(x+D)) < 0:=Int.mul_neg_of_pos_of_neg (by omega) (by omega)
 have e1:x*(2*r)=x*x+2*x*t-2*x:=by
  have:2*r=x+2*t-2:=by omega
  rw [this]
  grind
 have le:x*(2*r)<=x*x+m-D*D:=by rw [e1]; omega
 have n0:0<=x*(2*r):=Int.mul_nonneg hx (by omega)
 have sq:x*(2*r)*(x*(2*r))<=(x*x+m-D*D)*(x*x+m-D*D):=Int.mul_le_mul le le n0 (by omega)
 have e2:x*(2*r)*(x*(2*r))=4*(x*x)*(r*r):=by grind
 have xx:0<=4*(x*x):=Int.mul_nonneg (by omega) (Int.mul_nonneg hx hx)
 have mr:4*(x*x)*m<=4*(x*x)*(r*r):=Int.mul_le_mul_of_nonneg_left hc' xx
 omega
def Rt1 (m r:Nat):Prop:=1<=r/\(r-1)*(r-1) < m/\m < (r+1)*(r+1)
theorem yod {m A D k:Nat}(hk:D=2*k)(h:Rt1 (m / (D*D)) A)(hkA:k<=A)(hk0:1<=k):Rt1 m (A*k+m / (2*D*A)):=by
 obtain ⟨hA,h1,h2⟩:=h
 have hD0:0 < D:=by omega
 have hDD:0 < D*D:=Nat.mul_pos hD0 hD0
 have hj:=zh9 m (D*D)
 have hjr:=zic m hDD
 generalize m / (D*D)=j at *
 generalize m % (D*D)=jr at *
 have hxp:0 < 2*D*A:=Nat.mul_pos (by omega) (by omega)
 have ht:=zh9 m (2*D*A)
 have htr:=zic m hxp
 generalize m / (2*D*A)=t at *
 generalize m % (2*D*A)=tr at *
 have hp:1<=A*k:=Nat.mul_pos (by omega) (by omega)
 have e0:2*(A*k)=A*D:=by rw [hk]; grind
 have ex:2*D*A=2*(A*D):=by grind
 rw [ex] at ht htr
 refine ⟨by omega,?_,?_⟩
 ·have g1:((A-1)*D)*((A-1)*D) < m:=by
   have a1:(A-1)*(A-1)*(D*D) < j*(D*D):=zjf h1 hDD
   have a2:((A-1)*D)*((A-1)*D)=(A-1)*(A-1)*(D*D):=by grind
   rw [zhd] at hj
   omega
  have g2:m < (A*D+D)*(A*D+D):=by
   have a1:(j+1)*(D*D)<=(A+1)*(A+1)*(D*D):=zhn _ h2
   have a2:(A*D+D)*(A*D+D)=(A+1)*(A+1)*(D*D):=by grind
   rw [zhv,zhd j] at a1
   omega
  have g3:D*D<=2*(A*D):=by
   have:D*D<=2*A*D:=zhn _ (by omega)
   have e:2*A*D=2*(A*D):=by grind
   omega
  have e1:(A-1)*D=A*D-D:=by rw [Nat.sub_mul,ziv]
  have hDx:D<=A*D:=Nat.le_mul_of_pos_left _ (by omega)
  rw [e1] at g1
  generalize A*D=x at *
  obtain ⟨r,hr⟩:∃ r,A*k+t=r+1:=⟨A*k+t-1,by omega⟩
  rw [hr,ziw]
  have:=ytk (x:=x) (D:=D) (m:=m) (r:=r) (t:=t) (by
   have:((x-D:Nat):Int)=(x:Int)-(D:Int):=by omega
   rw [← this]
   exact_mod_cast g1) (by exact_mod_cast g2) (by exact_mod_cast g3) (by
    have:2*x*t<=m:=by omega
    exact_mod_cast this) (by omega) (by omega) (by omega)
  exact_mod_cast this
 ·refine ytl (x:=A*D) (t:=t) (by omega) ?_
  rw [zht,zi2]
  omega
theorem zd2 {A e:Nat}(h:4 ^ e < (A+1)*(A+1)):2 ^ e<=A:=by
 apply Classical.byContradiction
 intro hc
 have h1:(A+1)*(A+1)<=2 ^ e*2 ^ e:=ziz (by omega) (by omega)
 have h2:(4:Nat) ^ e=2 ^ e*2 ^ e:=by rw [← Nat.mul_pow]
 omega
theorem ykr {n c e d A:Nat}(hd:d<=2*e+1)(hed:e < d)(hdc:d<=c)(hn:4 ^ c<=n)(h:Rt1 (n / 2 ^ (2*(c-e))) A):
  Rt1 (n / 2 ^ (2*(c-d))) (A*2 ^ (d-e-1)+n / 2 ^ (2*c-e-d+1) / A):=by
 obtain ⟨m,hm⟩:∃ m,n / 2 ^ (2*(c-d))=m:=⟨_,rfl⟩
 obtain ⟨k,hk⟩:∃ k,d=e+k+1:=⟨d-e-1,by omega⟩
 have e1:n / 2 ^ (2*(c-e))=m / (2*2 ^ k*(2*2 ^ k)):=by
  rw [← hm,zi1]
  congr 1
  rw [show 2*(c-e)=2*(c-d)+((k+1)+(k+1)) from by omega,zit,zit 2 (k+1),zhu,zhd (2 ^ k) 2]
 have e2:n / 2 ^ (2*c-e-d+1) / A=m / (2*(2*2 ^ k)*A):=by
  rw [← hm,zi1,zi1,← zhk]
  congr 2
  rw [show 2*c-e-d+1=2*(c-d)+(k+2) from by omega,zit,zit 2 k 2]
  congr 1
  omega
 have hA:2 ^ k<=A:=by
  have h4:4 ^ e<=n / 2 ^ (2*(c-e)):=by
   rw [zkq (zkp (by omega)),zjl,← zit,show e+(c-e)=c from by omega]
   exact hn
  exact zhb (zhp (by omega) (by omega)) (zd2 (zij h4 h.2.2))
 rw [hm,e2,show d-e-1=k from by omega]
 rw [e1] at h
 exact yod rfl h hA (zkp (by omega))
theorem yrl {n c:Nat}(h1:4 ^ c<=n)(h2:n < 4 ^ (c+1)):Rt1 (n / 2 ^ (2*(c-0))) 1:=by
 have e:(2:Nat) ^ (2*(c-0))=4 ^ c:=by rw [zj4,zjl]
 have p:(0:Nat) < 4 ^ c:=zkp (by omega)
 rw [e]
 refine ⟨by omega,?_,?_⟩
 ·exact Nat.div_pos h1 p
 ·show n / 4 ^ c < 4
  rw [Nat.div_lt_iff_lt_mul p,zhd]
  rw [zhu] at h2
  exact h2
def IsRoot (n r:Nat):Prop:=r*r<=n/\n < (r+1)*(r+1)
theorem yk9 {n r s:Nat}(h:IsRoot n r)(h':IsRoot n s):r=s:=by
 rcases Nat.lt_trichotomy r s with hl | hl | hl
 ·have:=ziz (show r+1<=s by omega) (show r+1<=s by omega)
  have:=h.2; have:=h'.1; omega
 ·exact hl
 ·have:=ziz (show s+1<=r by omega) (show s+1<=r by omega)
  have:=h.1; have:=h'.2; omega
theorem ylp {n r:Nat}(h:Rt1 n r)(hc:n < r*r):IsRoot n (r-1):=by
 obtain ⟨h0,h1,h2⟩:=h
 refine ⟨by omega,?_⟩
 rw [show r-1+1=r from by omega]
 exact hc
theorem ylq {n r:Nat}(h:Rt1 n r)(hc:¬ n < r*r):IsRoot n r:=⟨by omega,h.2.2⟩
end Go.Proofs.YtdnindaohpdblaaGreat.Nt

namespace Go.Proofs.YtdnindaohpdblaaGreat
open Go.RowKit Nt
set_option maxRecDepth 20000
set_option maxHeartbeats 16000000

theorem up_n (w:World)(p:Option Addr)(n c a:Nat)(z:Int)(Z:Nat)(h:Num w p n c a)(hz:z=(Z:Int))(hsz:n+Z / 32+1<=70368744177664):
  Calls Tryz.prog 139 #[.slice p n c,.int .i64 z] w fun e w'=>∃ r cr,e=.returned (.slice r (digs (a*2 ^ Z)).length cr)/\Res w w' r cr (a*2 ^ Z):=by
 obtain ⟨xs,h1,rfl⟩:=h
 have:=up_c w p n c xs z (Z / 32) (Z % 32) h1 (by omega) (zic _ (by omega)) hsz
 rwa [zh9] at this
theorem zcg (w:World)(p:Option Addr)(n c a:Nat)(z:Int)(Z:Nat)(h:Num w p n c a)(hz:z=(Z:Int))(hz1:Z<=9223372036854775807)(hsz:n<=70368744177664):
  Calls Tryz.prog 141 #[.slice p n c,.int .i64 z] w fun e w'=>∃ r cr,e=.returned (.slice r (digs (a / 2 ^ Z)).length cr)/\Res w w' r cr (a / 2 ^ Z):=by
 obtain ⟨xs,h1,rfl⟩:=h
 have:=yxz w p n c xs z (Z / 32) (Z % 32) h1 (by omega) (zic _ (by omega)) (by omega) hsz
 rwa [zh9] at this
theorem zfs (w:World)(p q:Option Addr)(n c m d a b:Nat)(h:Num w p n c a)(h':Num w q m d b)(hb:b≠0)(hs:n+1<=70368744177664):
  Calls Tryz.prog 121 #[.slice p n c,.slice q m d] w fun e w'=>∃ r cr s cs,e=.returned (.tuple #[.slice r (digs (a / b)).length cr,.slice s (digs (a % b)).length cs,.int .i64 0])/\Res w w' r cr (a / b)/\Res w w' s cs (a % b)/\Two r s:=by
 obtain ⟨xs,h1,rfl⟩:=h
 obtain ⟨ys,h2,rfl⟩:=h'
 exact yn8 w p q n c m d xs ys h1 h2 hb hs
theorem yyr {m r X:Nat}(h:Rt1 m r)(hm:m<=X):r<=X:=by
 obtain ⟨h0,h1,h2⟩:=h
 rcases zi0 1 r with h3 | h3
 ·have:(r-1)*1<=(r-1)*(r-1):=zhm _ (by omega)
  omega
 ·omega
theorem yuo {X half:Nat}(h0:X≠0)(hh:half=(Go.bitLen X-1) / 2):4 ^ half<=X/\X < 4 ^ (half+1):=by
 obtain ⟨s1,s2⟩:=bitLen_spec X
 have s3:=s2 h0
 have e1:(4:Nat) ^ half=2 ^ (2*half):=by rw [zjl]
 have e2:(4:Nat) ^ (half+1)=2 ^ (2*(half+1)):=by rw [zjl]
 rw [e1,e2]
 exact ⟨zhb (zhp (by omega) (by omega)) s3,zhe s1 (zhp (by omega) (by omega))⟩
theorem zb7 {X n:Nat}(h:(digs X).length<=n):Go.bitLen X<=32*n:=by
 obtain ⟨s1,s2⟩:=bitLen_spec X
 by_cases h0:X=0
 ·rw [h0,show Go.bitLen 0=0 from rfl]; omega
 ·have s3:=s2 h0
  apply Classical.byContradiction
  intro hc
  have h1:=ycn X
  have h2:(4294967296:Nat) ^ (digs X).length<=4294967296 ^ n:=zhp (by omega) h
  have h3:(4294967296:Nat) ^ n=2 ^ (32*n):=by rw [zjl]
  have h4:2 ^ (32*n)<=2 ^ (Go.bitLen X-1):=zhp (by omega) (by omega)
  omega
def RI (w wr:World)(X half L i known A:Nat)(r:Option Addr)(cr:Nat):Prop:=
 Res w wr r cr A/\Rt1 (X / 2 ^ (2*(half-known))) A/\known=half / 2 ^ (L-i)
theorem zeg (w:World)(p:Option Addr)(n c:Nat)(xs:List Nat)(h:Sl w p n c xs)(hs:n<=35184372088832):
  Calls Tryz.prog 148 #[.slice p n c] w fun e w'=>∃ R r cr,e=.returned (.slice r (digs R).length cr)/\Res w w' r cr R/\IsRoot (val xs) R:=by
 obtain ⟨la,hla⟩:∃ la,(digs (val xs)).length=la:=⟨_,rfl⟩
 have T1:=hid (ycz w p n c la xs hla h)
 have S1:=h.digs
 have l1:=h.dl
 have hm:=h.max
 unfold maxLen at hm
 obtain ⟨X,hX⟩:∃ X,val xs=X:=⟨_,rfl⟩
 rw [hX] at hla S1 l1
 rw [hX]
 rw [hla] at S1 l1
 have hc1:=S1.cap
 have z0:=ya2 X
 rw [hla] at z0
 by_cases hX0:X=0
 ·have hz:la=0:=z0.2 hX0
  subst hX0
  subst hz
  clear h S1 hX hla z0
  go_enter Tryz.func148,Tryz.ntmps148
  go_wp2_with fail
  refine T1.out.mono ?_
  rintro e w' ⟨rfl,rfl⟩
  go_wp2_with fail
  go_ret
  exact ⟨0,none,0,rfl,Res.nil (Below.refl _ _),by omega,by omega⟩
 ·have hz:la≠0:=fun e=>hX0 (z0.1 e)
  have hlz:((la:Int) == 0)=false:=beq_eq_false_iff_ne.2 (by omega)
  have BT:=yr2 w p la c (digs X) S1 (by omega)
  rw [yaf] at BT
  obtain ⟨bl,hbl⟩:∃ bl,Go.bitLen X=bl:=⟨_,rfl⟩
  rw [hbl] at BT
  have HBT:=hid BT
  have hb32:bl<=32*la:=by rw [← hbl]; exact zb7 (by rw [hla]; exact zha _)
  have hb0:1<=bl:=by
   rw [← hbl]
   have:=(bitLen_spec X).1
   rcases Nat.eq_zero_or_pos (Go.bitLen X) with e | e
   ·rw [e] at this; omega
   ·exact e
  obtain ⟨half,hhalf⟩:∃ half,(bl-1) / 2=half:=⟨_,rfl⟩
  have hhi:((bl:Int)-1) / 2=(half:Int):=by omega
  have hhb:half<=16*la:=by omega
  have HX4:=hid (yuo (half:=half) hX0 (by rw [hbl]; exact hhalf.symm))
  obtain ⟨L,hL⟩:∃ L,Go.bitLen half=L:=⟨_,rfl⟩
  have HL:Hid (∀ W:World,Calls Tryz.prog 152 #[.int .u64 half] W fun e w'=>e=.returned (.int .i64 (L:Int))/\w'=W):=by
   intro W
   have:=zf3 W half (by omega)
   rw [hL] at this
   exact this
  have hL64:L<=64:=by
   rw [← hL]
   have s:=bitLen_spec half
   by_cases e:half=0
   ·rw [e,show Go.bitLen 0=0 from rfl]; omega
   ·have:=s.2 e
    apply Classical.byContradiction
    intro hc
    have:2 ^ 64<=2 ^ (Go.bitLen half-1):=zhp (by omega) (by omega)
    omega
  have HLS:=hid (show half < 2 ^ L/\(0 < L->2 ^ (L-1)<=half) from by
   rw [← hL]
   refine ⟨(bitLen_spec half).1,fun hp=>(bitLen_spec half).2 (fun e=>?_)⟩
   rw [e,show Go.bitLen 0=0 from rfl] at hp
   omega)
  have HS1:=hid S1
  have HLA:=hid hla
  clear h S1 hX hla z0 hbl hhalf BT hL
  go_enter Tryz.func148,Tryz.ntmps148
  go_wp2_with fail
  refine T1.out.mono ?_
  rintro e w' ⟨rfl,rfl⟩
  go_wp2_with fail
  refine HBT.out.mono ?_
  rintro e w' ⟨rfl,rfl⟩
  go_wp2_with fail
  rw [hhi]
  obtain ⟨W0,hW0⟩:∃ W,W=w'.alloc (.cells #[.int .u32 1] 64):=⟨_,rfl⟩
  have HR0:=hid (show Res w' W0 (some ⟨w'.heap.size,0,none⟩) 1 1 from by
   rw [hW0]
   exact Res.row (xs:=[1]) ((Below.refl _ _).alloc (zha _) _) (heap_alloc_last _ _) (Ok.cons (by omega) Ok.nil) rfl (zha _) rfl (by unfold maxLen; omega))
  rw [← hW0]
  obtain ⟨g0,hg0⟩:∃ g,g=w'.heap.size:=⟨_,rfl⟩
  rw [← hg0] at HR0 ⊢
  clear hW0 hg0 hhi
  refine (HL.out _).mono ?_
  rintro e w'' ⟨rfl,rfl⟩
  go_wp2_with fail
  go_loopg [4,5,24] L (fun gk s4 s5 s24 wr=>∃ (i known A:Nat) (r:Option Addr) (cr:Nat),L-i<=gk/\i<=L/\s24=.int .i64 i/\s5=.int .i64 known/\s4=.slice r (digs A).length cr/\Hid (RI w' wr X half L i known A r cr))
  case atStart =>
   refine ⟨0,0,1,some ⟨g0,0,none⟩,1,zk7 _ _,zhs _,rfl,rfl,?_,HR0.out,yrl HX4.out.1 HX4.out.2,?_⟩
   ·rw [yfb (by omega) (by omega)]; rfl
   ·rw [zj4,zi8 HLS.out.1]
  case round =>
   obtain ⟨i,known,A,r,cr,hgk,hi,rfl,rfl,rfl,HR⟩:=hrel
   have hA1:1<=A:=HR.out.2.1.1
   have hAX:A<=X:=yyr HR.out.2.1 (zia _ _)
   have hlA:(digs A).length<=la:=by rw [← HLA.out]; exact yag hAX
   have hkh:known<=half:=by rw [HR.out.2.2]; exact zia _ _
   obtain ⟨lA,hlAe⟩:∃ l,(digs A).length=l:=⟨_,rfl⟩
   rw [hlAe] at hlA ⊢
   have HAL:=hid hlAe
   clear hlAe
   have SR:Hid (Sl wr r lA cr (digs A)):=by rw [← HAL.out]; exact HR.out.1.sl
   by_cases hlt:i < L
   ·obtain ⟨last,hlast⟩:∃ last,L=last+1:=⟨L-1,by omega⟩
    obtain ⟨y,hy⟩:∃ y,half / 2 ^ (last-i)=y:=⟨_,rfl⟩
    have hyh:y<=half:=by rw [← hy]; exact zia _ _
    have hyi:(half:Int) / 2 ^ (last-i)=(y:Int):=by rw [← hy]; simp
    have hky:known=y / 2:=by
     rw [HR.out.2.2,← hy,zi1,← zhu,show (last-i).succ=L-i from by omega]
    have hy1:1<=y:=by
     rw [← hy]
     apply Nat.div_pos _ (zih _)
     have h1:=HLS.out.2 (by omega)
     exact zhb (zhp (by omega) (by omega)) h1
    have HY:=hid hy
    have HKY:=hid hky
    subst hlast
    clear hy hky
    rw [show ((last+1:Nat):Int)=(last:Int)+1 from by omega] at HL
    go_wp2_with fail
    refine (HL.out _).mono ?_
    rintro e w'' ⟨rfl,rfl⟩
    go_wp2_with fail
    obtain ⟨Z,hZ⟩:∃ Z,2*half-known-y+1=Z:=⟨_,rfl⟩
    have hZi:2*(half:Int)-(known:Int)-(y:Int)+1=(Z:Int):=by omega
    have HZ:=hid hZ
    refine (zcg _ p la c X _ Z (HS1.out.below HR.out.1.below).numd hZi (by omega) (by omega)).mono ?_
    rintro e W1 ⟨r1,c1,rfl,R1⟩
    have l1':(digs (X / 2 ^ Z)).length<=la:=by rw [← HLA.out]; exact yag (zia _ _)
    obtain ⟨L1,hL1⟩:∃ l,(digs (X / 2 ^ Z)).length=l:=⟨_,rfl⟩
    have N1:=R1.sl.numd
    have B1:=R1.below
    rw [hL1] at N1 l1' ⊢
    have HN1:=hid N1
    have HB1:=hid B1
    clear R1 hL1 N1 B1 hZi hZ
    go_wp2_with fail
    refine (zfs _ r1 r L1 c1 lA cr (X / 2 ^ Z) A HN1.out (SR.out.below HB1.out).numd (by omega) (by omega)).mono ?_
    rintro e W2 ⟨r2,c2,r3,c3,rfl,R2,_,_⟩
    have l2':(digs (X / 2 ^ Z / A)).length<=la:=by rw [← HLA.out]; exact yag (zhb (zia _ _) (zia _ _))
    obtain ⟨L2,hL2⟩:∃ l,(digs (X / 2 ^ Z / A)).length=l:=⟨_,rfl⟩
    have N2:=R2.sl.numd
    have B2:=HB1.out.trans (R2.below.mono HB1.out.size)
    rw [hL2] at N2 l2' ⊢
    have HN2:=hid N2
    have HB2:=hid B2
    clear R2 hL2 N2 B2 HN1 HB1
    go_wp2_with fail
    obtain ⟨k,hk⟩:∃ k,y-known-1=k:=⟨_,rfl⟩
    have hki:(y:Int)-(known:Int)-1=(k:Int):=by have:=HKY.out; omega
    have HK:=hid hk
    refine (up_n _ r lA cr A _ k (SR.out.below HB2.out).numd hki (by omega)).mono ?_
    rintro e W3 ⟨r4,c4,rfl,R4⟩
    have l3':(digs (A*2 ^ k)).length<=la:=by
     have:=ykr (d:=y) (e:=known) (by have:=HKY.out; omega) (by have:=HKY.out; omega) hyh HX4.out.1 HR.out.2.1
     rw [HK.out,HZ.out] at this
     have:=yyr this (zia _ _)
     rw [← HLA.out]
     exact yag (zhb (Nat.le_add_right _ _) this)
    obtain ⟨L3,hL3⟩:∃ l,(digs (A*2 ^ k)).length=l:=⟨_,rfl⟩
    have N3:=R4.sl.numd
    have B3:=HB2.out.trans (R4.below.mono HB2.out.size)
    have N2':=HN2.out.below R4.below
    rw [hL3] at N3 l3' ⊢
    have HN3:=hid N3
    have HB3:=hid B3
    have HN2':=hid N2'
    clear R4 hL3 N3 B3 N2' HN2 HB2 hki hk
    go_wp2_with fail
    refine (zfi _ r4 r2 L3 c4 L2 c2 (A*2 ^ k) (X / 2 ^ Z / A) HN3.out HN2'.out 70368744177663 (by omega) (by omega) (by omega)).mono ?_
    rintro e W4 ⟨r5,c5,rfl,R5,_⟩
    have HR5:=hid (R5.since HB3.out)
    clear R5
    go_wp2_with fail
    go_roundg (last+1-(i+1))
    case rel =>
     refine ⟨i+1,y,A*2 ^ k+X / 2 ^ Z / A,r5,c5,zha _,by omega,by go_num,rfl,rfl,HR5.out.since HR.out.1.below,?_,?_⟩
     ·have:=ykr (d:=y) (e:=known) (by have:=HKY.out; omega) (by have:=HKY.out; omega) hyh HX4.out.1 HR.out.2.1
      rw [HK.out,HZ.out] at this
      exact this
     ·rw [← HY.out,show last+1-(i+1)=last-i from by omega]
    case measure=>omega
   ·have hiL:i=L:=by omega
    have hkl:known=half:=by rw [HR.out.2.2,hiL,zio,Nat.pow_zero,Nat.div_one]
    have HRT:Hid (Rt1 X A):=by
     have:=HR.out.2.1
     rwa [hkl,zio,zin,Nat.pow_zero,Nat.div_one] at this
    have HRS:=hid HR.out.1
    subst hiL
    clear HR hkl HL HLS
    go_wp2_with fail
    refine (zf9 _ r r lA cr lA cr A A SR.out.numd SR.out.numd 70368744177664 (by omega) (by omega)).mono ?_
    rintro e W1 ⟨r1,c1,rfl,R1,Z1⟩
    obtain ⟨L1,hL1⟩:∃ l,(digs (A*A)).length=l:=⟨_,rfl⟩
    have N1:=R1.sl.numd
    have B1:=R1.below
    rw [hL1] at N1 ⊢
    have CM:=zfr W1 r1 p L1 c1 la c (A*A) X N1 ((HS1.out.below HRS.out.below).below B1).numd
    have HCM:=hid CM
    have HB1:=hid B1
    clear R1 Z1 hL1 N1 B1 CM
    rcases zi0 X (A*A) with hgt | hle
    ·have hcm:cmpN (A*A) X=1:=by
      unfold cmpN
      rw [if_neg (by omega),if_neg (by omega)]
     rw [hcm] at HCM
     have HGT:=hid hgt
     clear hcm hgt
     go_wp2_with fail
     refine HCM.out.mono ?_
     rintro e W2 ⟨rfl,nq,rfl⟩
     go_wp2_with fail
     obtain ⟨b,o,rfl,_⟩:=SR.out.lie 0 (by rw [HAL.out]; have:=ya2 A; rw [HAL.out] at this; omega)
     obtain ⟨rfl,hgb,rest,hblk,hor,hcr⟩:=HRS.out.own b o rfl
     have hbin:=HRS.out.in b 0 rfl
     have hbs:=HB1.out.size
     obtain ⟨W2,hW2⟩:∃ W,W=(W1.drewN nq).alloc (.cells #[.int .u32 1] 64):=⟨_,rfl⟩
     have hB2:Below wr.heap.size wr W2:=by rw [hW2]; exact (ybq HB1.out nq).alloc (by simpa using hbs) _
     have hS1:Sl W2 (some ⟨W1.heap.size,0,none⟩) 1 1 [1]:=by
      rw [hW2]
      exact yyz (heap_alloc_last _ _) (by omega)
     rw [← hW2]
     have hSRm:=SR.out.max
     have hSRc:=SR.out.cap
     rw [HAL.out] at hcr
     refine (ynr W2 b (digs A) lA cr (some ⟨W1.heap.size,0,none⟩) 1 1 [1] HAL.out hSRc hSRm rest (hblk.below hB2) (ybo _) hS1 (fun b' o' e _=>by
      simp only [Option.some.injEq,Addr.mk.injEq] at e
      omega) (by have:=ya2 A; rw [HAL.out] at this; omega) (by rw [yaf]; simp [val]; omega)).mono ?_
     rintro e W3 ⟨Z,hZl,hZo,hZv,rfl,hWr⟩
     have hvZ:val Z=A-1:=by
      rw [yaf] at hZv
      simp [val] at hZv
      omega
     have hblk3:=Wr.blk (hblk.below hB2) hWr
     have hSZ:Sl W3 (some ⟨b,0,none⟩) lA cr Z:=⟨hZl,hSRc,hSRm,(fun e=>by cases e),hZo,by
      have:=hblk3.limbs.take Z.length
      rwa [List.take_left] at this⟩
     have T2:=hid (ycz W3 (some ⟨b,0,none⟩) lA cr (digs (A-1)).length Z (by rw [hvZ]) hSZ)
     have RF:=hid (Res.rewritten (w:=w') (W:=W2) (g:=b) (c:=cr) (D:=digs A) (rest:=rest) (Z:=Z) (A:=A-1) (HRS.out.below.trans (hB2.mono HRS.out.below.size)) (hblk.below hB2) hgb (by rw [HAL.out]; exact hcr) hSRm hor (by rw [HAL.out]; exact hZl) hZo hvZ hWr)
     clear hW2 hS1 hSRm hZl hZo hZv hWr hvZ hblk3 hSZ hblk hor hcr
     go_wp2_with fail
     refine T2.out.mono ?_
     rintro e W4 ⟨rfl,rfl⟩
     go_wp2_with fail
     go_ret
     exact ⟨A-1,some ⟨b,0,none⟩,cr,rfl,RF.out,ylp HRT.out HGT.out⟩
    ·have hcm:¬ 0 < cmpN (A*A) X:=by
      unfold cmpN
      split
      ·omega
      ·rw [if_pos (by omega)]; omega
     obtain ⟨cv,hcv⟩:∃ cv,cmpN (A*A) X=cv:=⟨_,rfl⟩
     rw [hcv] at HCM hcm
     have HLE:=hid hle
     clear hcv hle
     go_wp2_with fail
     refine HCM.out.mono ?_
     rintro e W2 ⟨rfl,nq,rfl⟩
     have T2:=hid (ycz (W1.drewN nq) r lA cr lA (digs A) (by rw [yaf]; exact HAL.out) (SR.out.below (ybq HB1.out nq)))
     go_wp2_with fail
     refine T2.out.mono ?_
     rintro e W3 ⟨rfl,rfl⟩
     go_wp2_with fail
     go_ret
     refine ⟨A,r,cr,by rw [HAL.out]; rfl,HRS.out.later (ybq HB1.out nq),ylq HRT.out (by have:=HLE.out; omega)⟩
end Go.Proofs.YtdnindaohpdblaaGreat

namespace Go.Proofs.YtdnindaohpdblaaGreat
open Go Go.RowKit Nt
set_option maxRecDepth 20000
set_option maxHeartbeats 16000000
section
variable {ops:Array Oper} {l:List Kd} {bx:Bxs} {sl:List (Tmp × Pr)} {i:Nat} {o:Oper} {Q:Exit->Act->World->Prop} {a0:Act} {n:Nat} {w0:World}
end
end Go.Proofs.YtdnindaohpdblaaGreat

namespace Go.Proofs.YtdnindaohpdblaaGreat
open Go.RowKit Nt
set_option maxRecDepth 20000
set_option maxHeartbeats 16000000


end Go.Proofs.YtdnindaohpdblaaGreat

namespace Go.Proofs.YtdnindaohpdblaaGreat
open Go Go.RowKit Nt
set_option maxRecDepth 20000
set_option maxHeartbeats 16000000
open Classical in
noncomputable def rt (X:Nat):Nat:=if h:∃ R,IsRoot X R then Classical.choose h else 0
theorem za6 {X R:Nat}(h:IsRoot X R):rt X=R:=by
 unfold rt
 rw [dif_pos ⟨R,h⟩]
 exact yk9 (zja (p:=fun R=>IsRoot X R) ⟨R,h⟩) h
theorem zc2 {x k:Nat}(hk:k<=35184372088832):∀ w u,Nv x k u w->CG 148 #[u] w (NN (rt x)):=by
 rintro w u ⟨p,n,c,xs,rfl,h,rfl,hn⟩
 refine (zeg w p n c xs h (by omega)).mono ?_
 rintro e w' ⟨R,r,cr,rfl,A,hR⟩
 rw [za6 hR]
 exact ⟨_,rfl,A.below,yp8 A⟩
theorem zgo (X:Nat):rt X<=X:=by
 unfold rt
 split
 ·rename_i h
  have:=(zja h).1
  generalize Classical.choose h=R at this ⊢
  rcases Nat.eq_zero_or_pos R with h0 | h0
  ·omega
  ·exact zhb (zk0 R h0) this
 ·omega
theorem zei {w:World}{p:Option Addr}{n c:Nat}{xs:List Nat}(h:Sl w p n c xs):(digs (rt (val xs))).length<=n:=zhb (yag (zgo _)) h.dl
end Go.Proofs.YtdnindaohpdblaaGreat
