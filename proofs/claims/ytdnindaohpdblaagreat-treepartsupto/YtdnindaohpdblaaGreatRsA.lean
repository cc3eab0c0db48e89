import Derived.Test.YtdnindaohpdblaaGreatSetA
set_option linter.all false
namespace Go.Proofs.YtdnindaohpdblaaGreat.Nt
set_option maxHeartbeats 16000000
structure Sd (X Y x y U1 V1 u2 v2:Nat):Prop where
 ex:U1*X=x+V1*Y
 ey:v2*Y=y+u2*X
theorem Sd.next {X Y x y U1 V1 u2 v2:Nat}(h:Sd X Y x y U1 V1 u2 v2):Sd Y X y (x % y) v2 u2 (V1+x / y*v2) (U1+x / y*u2):=by
 have hd:y*(x / y)+x % y=x:=zh9 x y
 obtain ⟨q,hq⟩:∃ q,x / y=q:=⟨_,rfl⟩
 obtain ⟨r,hr⟩:∃ r,x % y=r:=⟨_,rfl⟩
 rw [hq,hr] at hd ⊢
 refine ⟨h.ey,?_⟩
 have e1:=h.ex
 have e2:=h.ey
 have e3:q*(v2*Y)=q*(y+u2*X):=by rw [e2]
 rw [zhv,zhv,zhk,zhk,e3,zht,e1,zhd q y]
 omega
structure Lk (X Y x y U1 V1 u2 v2:Nat):Prop where
 sd:Sd X Y x y U1 V1 u2 v2
 det:U1*v2=1+u2*V1
theorem Lk.next {X Y x y U1 V1 u2 v2:Nat}(h:Lk X Y x y U1 V1 u2 v2):Lk Y X y (x % y) v2 u2 (V1+x / y*v2) (U1+x / y*u2):=by
 refine ⟨h.sd.next,?_⟩
 have:=h.det
 obtain ⟨q,hq⟩:∃ q,x / y=q:=⟨_,rfl⟩
 rw [hq,zht,zhv,zhd v2 U1,this,zhd u2 V1]
 have e:v2*(q*u2)=q*v2*u2:=by rw [zhd q v2,zhk]
 rw [e]
 omega
theorem yuk {X Y y u2 v2 K a0 b0:Nat}(h:v2*Y=y+u2*X)(ha:a0 < K)(hu:u2<=y):u2*(X*K+a0)<=v2*(Y*K+b0):=by
 have h1:u2*a0<=y*K:=ziz hu (zi4 ha)
 rw [zht,zht,← zhk,← zhk,h,zhv]
 omega
theorem yhk {a b a' b' U0 V0 U1 V1:Nat}(ea:V0*b=a'+U0*a)(eb:U1*a=b'+V1*b)(det:U1*V0=1+U0*V1):a=V1*a'+V0*b'/\b=U1*a'+U0*b':=by
 have m1:V0*(U1*a)=V0*b'+V1*(V0*b):=by rw [eb,zht,← zhk V0 V1,zhd V0 V1,zhk]
 have m2:U1*(V0*b)=U1*a'+U0*(U1*a):=by rw [ea,zht,← zhk U1 U0,zhd U1 U0,zhk]
 have d1:V0*(U1*a)=a+U0*V1*a:=by rw [← zhk,zhd V0 U1,det,zhv,ziv]
 have d2:U1*(V0*b)=b+U0*V1*b:=by rw [← zhk,det,zhv,ziv]
 have k1:V1*(V0*b)=V1*a'+U0*V1*a:=by rw [ea,zht,← zhk V1 U0,zhd V1 U0]
 have k2:U0*(U1*a)=U0*b'+U0*V1*b:=by rw [eb,zht,← zhk U0 V1]
 constructor
 ·rw [d1,k1] at m1
  omega
 ·rw [d2,k2] at m2
  omega
theorem ypz {a b a' b' U0 V0 U1 V1:Nat}(ea:V0*b=a'+U0*a)(eb:U1*a=b'+V1*b)(det:U1*V0=1+U0*V1):Nat.gcd a' b'=Nat.gcd a b:=by
 obtain ⟨e1,e2⟩:=yhk ea eb det
 apply Nat.dvd_antisymm
 ·refine Nat.dvd_gcd ?_ ?_
  ·rw [e1]
   exact Nat.dvd_add (zj9 (zj2 a' b') (zjq _ _)) (zj9 (zjm a' b') (zjq _ _))
  ·rw [e2]
   exact Nat.dvd_add (zj9 (zj2 a' b') (zjq _ _)) (zj9 (zjm a' b') (zjq _ _))
 ·refine Nat.dvd_gcd ?_ ?_
  ·have h1:Nat.gcd a b ∣ a'+U0*a:=by rw [← ea]; exact zj9 (zjm a b) (zjq _ _)
   exact (Nat.dvd_add_iff_left (zj9 (zj2 a b) (zjq _ _))).2 h1
  ·have h1:Nat.gcd a b ∣ b'+V1*b:=by rw [← eb]; exact zj9 (zj2 a b) (zjq _ _)
   exact (Nat.dvd_add_iff_left (zj9 (zjm a b) (zjq _ _))).2 h1
theorem yjl {X Y x y U1 V1 u2 v2 K a0 b0:Nat}(h:Sd X Y x y U1 V1 u2 v2)(hb:b0 < K)(hxy:V1+v2+y<=x)(hp:1<=V1+v2):(V1+v2)*(Y*K+b0) < (U1+u2)*(X*K+a0):=by
 have h0:(V1+v2)*b0 < (V1+v2)*K:=Nat.mul_lt_mul_of_pos_left hb (by omega)
 have h1:(V1+v2)*K<=(x-y)*K:=zhn K (by omega)
 have e:(U1+u2)*X=(x-y)+(V1+v2)*Y:=by
  rw [zhv,zhv,h.ex,h.ey]
  omega
 rw [zht,zht,← zhk,← zhk,e,zhv (x-y) ((V1+v2)*Y) K]
 omega
def Good (a b U0 V0 U1 V1:Nat)(odd:Bool):Prop:=
 ∃ a' b',(odd=true/\V0*b=a'+U0*a/\U1*a=b'+V1*b\/odd=false/\U0*a=a'+V0*b/\V1*b=b'+U1*a)/\b' < a'/\a'<=b/\Nat.gcd a' b'=Nat.gcd a b/\(odd=true/\U1*V0=1+U0*V1\/odd=false/\U0*V1=1+U1*V0)
theorem ysw {X Y x y U1 V1 u2 v2 K a0 b0:Nat}(h:Lk X Y x y U1 V1 u2 v2)(ha:a0 < K)(hb:b0 < K)(hu:u2<=v2)(hu1:1<=u2)(hy:v2<=y)(hxy:V1+v2+y<=x):Good (X*K+a0) (Y*K+b0) U1 V1 u2 v2 false:=by
 have r1:=yuk (b0:=b0) h.sd.ey ha (zhb hu hy)
 have r2:=yjl (a0:=a0) h.sd hb hxy (by omega)
 generalize X*K+a0=a at *
 generalize Y*K+b0=b at *
 rw [zhv,zhv] at r2
 have ea:U1*a=(U1*a-V1*b)+V1*b:=by omega
 have eb:v2*b=(v2*b-u2*a)+u2*a:=by omega
 have det:v2*U1=1+V1*u2:=by rw [zhd,h.det,zhd u2]
 refine ⟨U1*a-V1*b,v2*b-u2*a,.inr ⟨rfl,ea,eb⟩,by omega,?_,?_⟩
 ·have:=(yhk ea eb det).1
  have h1:1*(U1*a-V1*b)<=u2*(U1*a-V1*b):=zhn _ hu1
  omega
 ·exact ⟨by rw [ypz ea eb det,zj8],.inr ⟨rfl,by rw [zhd U1,det,zhd V1]⟩⟩
theorem yke {X Y x y U1 V1 u2 v2 K a0 b0:Nat}(h:Lk Y X x y V1 U1 v2 u2)(ha:a0 < K)(hb:b0 < K)(hu:u2<=v2)(hu':U1<=V1)(hu1:1<=u2)(hy:v2<=y)(hxy:V1+v2+y<=x):Good (X*K+a0) (Y*K+b0) U1 V1 u2 v2 true:=by
 have r1:=yuk (b0:=a0) h.sd.ey hb hy
 have r2:=yjl (a0:=b0) h.sd ha (by omega) (by omega)
 generalize X*K+a0=a at *
 generalize Y*K+b0=b at *
 rw [zhv,zhv] at r2
 have ea:V1*b=(V1*b-U1*a)+U1*a:=by omega
 have eb:u2*a=(u2*a-v2*b)+v2*b:=by omega
 have det:u2*V1=1+U1*v2:=by rw [zhd,h.det,zhd v2]
 refine ⟨V1*b-U1*a,u2*a-v2*b,.inl ⟨rfl,ea,eb⟩,by omega,?_,?_⟩
 ·have:=(yhk ea eb det).2
  have h1:1*(V1*b-U1*a)<=u2*(V1*b-U1*a):=zhn _ hu1
  omega
 ·exact ⟨by rw [ypz ea eb det],.inl ⟨rfl,det⟩⟩
structure LI (X Y K a0 b0 x y U0 V0 U1 V1 u2 v2:Nat) (odd:Bool):Prop where
 side:odd=true/\Lk X Y x y U1 V1 u2 v2\/odd=false/\Lk Y X x y V1 U1 v2 u2
 le:y<=x
 xX:x<=X
 uv:u2<=v2
 pos:1<=v2
 vX:v2<=X
 small:U0 < 4294967296/\V0 < 4294967296/\U1 < 4294967296/\V1 < 4294967296
 phase:(V0=0/\U0=0/\U1=1/\V1=0/\u2=0/\v2=1/\odd=true)\/(V0=0/\V1=1/\U1=0/\u2=1/\odd=false)\/(1<=V0/\1<=U1/\U1<=V1/\1<=u2/\Good (X*K+a0) (Y*K+b0) U0 V0 U1 V1 odd)
theorem ylb {X Y x y U1 V1 u2 v2:Nat}(h:Lk X Y x y U1 V1 u2 v2):X=v2*x+V1*y/\Y=u2*x+U1*y:=by
 have e1:=h.sd.ex
 have e2:=h.sd.ey
 have d:v2*U1=1+V1*u2:=by rw [zhd,h.det,zhd u2]
 have:=yhk (a:=Y) (b:=X) (a':=x) (b':=y) (U0:=V1) (V0:=U1) (U1:=v2) (V1:=u2) e1 e2 d
 exact ⟨this.2,this.1⟩
theorem LI.start {X Y K a0 b0:Nat}(h:Y<=X)(hX:1<=X):LI X Y K a0 b0 X Y 0 0 1 0 0 1 true:=
 ⟨.inl ⟨rfl,⟨by omega,by omega⟩,by omega⟩,h,zha _,by omega,by omega,hX,⟨by omega,by omega,by omega,by omega⟩,.inl ⟨rfl,rfl,rfl,rfl,rfl,rfl,rfl⟩⟩
theorem LI.high {X Y K a0 b0 x y U0 V0 U1 V1 u2 v2:Nat}{odd:Bool}(h:LI X Y K a0 b0 x y U0 V0 U1 V1 u2 v2 odd):X=v2*x+V1*y:=by
 rcases h.side with ⟨_,k⟩ | ⟨_,k⟩
 ·exact (ylb k).1
 ·exact (ylb k).2
theorem LI.next {X Y K a0 b0 x y U0 V0 U1 V1 u2 v2:Nat}{odd:Bool}(h:LI X Y K a0 b0 x y U0 V0 U1 V1 u2 v2 odd)(ha:a0 < K)(hb:b0 < K)(hX:X < 18446744073709551616)(hy:v2<=y)(hxy:V1+v2+y<=x):
  LI X Y K a0 b0 y (x % y) U1 V1 u2 v2 (U1+x / y*u2) (V1+x / y*v2) (!odd):=by
 have hp:=h.pos
 have huv:=h.uv
 have hle:=h.le
 obtain ⟨q0,q1,q2,q3⟩:=h.small
 have hq:1<=x / y:=(zkq (by omega)).2 (by omega)
 have hsq:v2 < 4294967296:=by
  have e:=h.high
  have h1:v2*v2<=v2*x:=zhm _ (by omega)
  apply Classical.byContradiction
  intro hc
  have h2:4294967296*4294967296<=v2*v2:=ziz (by omega) (by omega)
  omega
 have hmul:x / y*u2<=x / y*v2:=zhm _ huv
 have hmul1:1*v2<=x / y*v2:=zhn _ hq
 have huv':U1+x / y*u2<=V1+x / y*v2:=by
  rcases h.phase with ⟨_,_,rfl,rfl,rfl,rfl,_⟩ | ⟨_,rfl,rfl,rfl,_⟩ | ⟨_,_,hc,_,_⟩
  ·omega
  ·omega
  ·omega
 have hside:(!odd)=true/\Lk X Y y (x % y) u2 v2 (U1+x / y*u2) (V1+x / y*v2)\/(!odd)=false/\Lk Y X y (x % y) v2 u2 (V1+x / y*v2) (U1+x / y*u2):=by
  rcases h.side with ⟨rfl,k⟩ | ⟨rfl,k⟩
  ·exact .inr ⟨rfl,k.next⟩
  ·exact .inl ⟨rfl,k.next⟩
 have hhigh:X=(V1+x / y*v2)*y+v2*(x % y):=by
  rcases hside with ⟨_,k⟩ | ⟨_,k⟩
  ·exact (ylb k).1
  ·exact (ylb k).2
 refine ⟨hside,zi4 (zic _ (by omega)),by have:=h.xX; omega,huv',by omega,?_,⟨q2,q3,by omega,hsq⟩,?_⟩
 ·have h1:(V1+x / y*v2)*1<=(V1+x / y*v2)*y:=zhm _ (by omega)
  omega
 ·rcases h.phase with ⟨_,_,rfl,rfl,rfl,rfl,rfl⟩ | ⟨_,rfl,rfl,rfl,rfl⟩ | ⟨p1,p2,p3,p4,_⟩
  ·exact .inr (.inl ⟨rfl,rfl,rfl,by omega,rfl⟩)
  ·refine .inr (.inr ⟨by omega,by omega,huv,by omega,?_⟩)
   rcases h.side with ⟨hh,k⟩ | ⟨_,k⟩
   ·cases hh
   ·exact yke k ha hb huv (by omega) (by omega) hy hxy
  ·refine .inr (.inr ⟨by omega,by omega,huv,by omega,?_⟩)
   rcases h.side with ⟨rfl,k⟩ | ⟨rfl,k⟩
   ·exact ysw k ha hb huv p4 hy hxy
   ·exact yke k ha hb huv p3 p4 hy hxy
set_option linter.unusedVariables false in
def lkE (x y U0 V0 U1 V1 u2 v2:Nat)(odd:Bool):Nat × Nat × Nat × Nat × Bool:=
 if h:(v2<=y/\V1+v2+y<=x)/\0 < y then lkE y (x % y) U1 V1 u2 v2 (U1+x / y*u2) (V1+x / y*v2) (!odd) else (U0,V0,U1,V1,odd)
termination_by y
decreasing_by exact zic _ h.2
theorem zdh {x y U0 V0 U1 V1 u2 v2:Nat}{odd:Bool}(h:v2<=y)(h':V1+v2+y<=x)(hp:1<=v2):lkE y (x % y) U1 V1 u2 v2 (U1+x / y*u2) (V1+x / y*v2) (!odd)=lkE x y U0 V0 U1 V1 u2 v2 odd:=by
 conv=>rhs; unfold lkE
 rw [dif_pos ⟨⟨h,h'⟩,by omega⟩]
theorem zae {x y U0 V0 U1 V1 u2 v2:Nat}{odd:Bool}(h:¬ (v2<=y/\V1+v2+y<=x)):lkE x y U0 V0 U1 V1 u2 v2 odd=(U0,V0,U1,V1,odd):=by
 unfold lkE
 rw [dif_neg (fun k=>h k.1)]
end Go.Proofs.YtdnindaohpdblaaGreat.Nt

namespace Go.Proofs.YtdnindaohpdblaaGreat
open Go.RowKit Nt
set_option maxRecDepth 20000
set_option maxHeartbeats 16000000
theorem yzv (w:World)(p:Option Addr)(n c:Nat)(xs:List Nat)(hn:xs.length=n)(hc:n<=c)(hm:c<=maxLen)(ho:Ok xs)(hx:Limbs w p xs):
  Calls Tryz.prog 151 #[.slice p n c] w fun e w'=>e=.returned (.slice p (digs (val xs)).length c)/\w'=w:=by
 unfold maxLen at hm
 have HX:Hid (Limbs w p xs):=hx
 have HN:Hid (xs.length=n):=hn
 have HO:Hid (Ok xs):=ho
 clear hx hn ho
 go_enter Tryz.func151,Tryz.ntmps151
 go_wp2
 go_loop [3] (fun i=>∃ k:Nat,k<=n/\i=.int .i64 k/\Hid (∀ j,k<=j->j < n->xs.getD j 0=0)) (fun i=>(intOf i).toNat)
 case atStart=>exact ⟨n,zha _,rfl,fun j h1 h2=>by omega⟩
 case round =>
  obtain ⟨k,hk,rfl,HZ⟩:=hrel
  by_cases hlt:0 < k
  ·obtain ⟨b,o,rfl,hcell⟩:=HX.out (k-1) (by have:=HN.out; omega)
   by_cases h0:xs.getD (k-1) 0=0
   ·have hcell':=hcell
    rw [h0] at hcell'
    have H0:Hid (xs.getD (k-1) 0=0):=h0
    clear h0 hcell
    go_wp2
    go_round
    case rel =>
     refine ⟨k-1,by omega,by go_num,?_⟩
     intro j h1 h2
     by_cases e:j=k-1
     ·rw [e]; exact H0.out
     ·exact HZ.out j (by omega) h2
    case measure=>simp [intOf]; omega
   ·obtain ⟨x,hx⟩:∃ x,x=xs.getD (k-1) 0:=⟨_,rfl⟩
    have H0:Hid (xs.getD (k-1) 0≠0):=h0
    rw [← hx] at hcell h0
    have hb:((x:Int) == 0)=false:=beq_eq_false_iff_ne.2 (by omega)
    clear h0 hx
    go_wp2
    go_ret
    have hl:k=(digs (val xs)).length:=by
     have:=yfk HO.out (k:=k) (by rw [HN.out]; exact hk) (by rw [HN.out]; exact HZ.out) (Or.inr H0.out)
     rw [← this]; simp [HN.out]; omega
    exact ⟨yhn (by simp [Addr.add]) hl rfl,rfl⟩
  ·go_wp2
   go_ret
   have hl:k=(digs (val xs)).length:=by
    have:=yfk HO.out (k:=k) (by rw [HN.out]; exact hk) (by rw [HN.out]; exact HZ.out) (Or.inl (by omega))
    rw [← this]; simp [HN.out]; omega
   exact ⟨yhn (by simp [Addr.add]) hl rfl,rfl⟩
theorem yzw (w:World)(p:Option Addr)(n c k:Nat)(xs:List Nat)(hk:(digs (val xs)).length=k)(hn:xs.length=n)(hc:n<=c)(hm:c<=maxLen)(ho:Ok xs)(hx:Limbs w p xs):
  Calls Tryz.prog 151 #[.slice p n c] w fun e w'=>e=.returned (.slice p k c)/\w'=w:=by
 subst hk
 exact yzv w p n c xs hn hc hm ho hx
theorem ymw (w:World)(p:Option Addr)(n c:Nat)(xs:List Nat)(h:Sl w p n c xs)(i:Nat)(hi:i<=9223372036854775807):
  Calls Tryz.prog 150 #[.slice p n c,.int .i64 i] w fun e w'=>e=.returned (.int .u32 (xs.getD i 0:Nat))/\w'=w:=by
 by_cases hlt:i < n
 ·obtain ⟨b,o,rfl,hcell⟩:=h.lie i (by rw [h.len]; exact hlt)
  have hc:=h.cap
  have hm:=h.max
  unfold maxLen at hm
  generalize xs.getD i 0=x at *
  clear h
  go_enter Tryz.func150,Tryz.ntmps150
  go_wp2
  go_ret
  exact ⟨rfl,rfl⟩
 ·have h0:xs.getD i 0=0:=by rw [zhc,zim (by rw [h.len]; omega)]; rfl
  rw [h0]
  have hm:=h.max
  have hc:=h.cap
  unfold maxLen at hm
  clear h h0
  go_enter Tryz.func150,Tryz.ntmps150
  go_wp2
  go_ret
  exact ⟨rfl,rfl⟩
theorem ykd (w:World)(a b:Nat)(ha:a < 18446744073709551616)(hb:b < 18446744073709551616):
  Calls Tryz.prog 130 #[.int .u64 a,.int .u64 b] w fun e w'=>e=.returned (.int .u64 (Nat.gcd a b:Nat))/\∃ nq,w'=w.drewN nq:=by
 go_enter Tryz.func130,Tryz.ntmps130
 go_wp2
 go_loopw [0,1] (fun xv yv wr=>∃ x y:Nat,(∃ nq,wr=w.drewN nq)/\xv=.int .u64 x/\yv=.int .u64 y/\x < 18446744073709551616/\y < 18446744073709551616/\Hid (Nat.gcd x y=Nat.gcd a b)) (fun _ yv _=>(intOf yv).toNat)
 case atStart=>exact ⟨a,b,dr0 _,rfl,rfl,ha,hb,rfl⟩
 case round =>
  obtain ⟨x,y,⟨nq,rfl⟩,rfl,rfl,hx,hy,HG⟩:=hrel
  by_cases h0:y=0
  ·subst h0
   go_wp2
   go_ret
   have:=HG.out
   rw [zk2] at this
   rw [← this]
   exact ⟨rfl,dr1 _ _⟩
  ·have hp:1<=y:=by omega
   clear h0
   have hm:x % y < y:=zic _ (by omega)
   go_wp2_with fail
   go_quiet (fail)
   go_wp2
   go_roundw
   case rel =>
    refine ⟨y,x % y,dr2 _ _ _,rfl,?_,hy,by omega,?_⟩
    ·go_num
    ·rw [← HG.out,zj8 y,← Nat.gcd_rec,zj8]; exact rfl
   case measure=>simp [intOf]; omega
end Go.Proofs.YtdnindaohpdblaaGreat
