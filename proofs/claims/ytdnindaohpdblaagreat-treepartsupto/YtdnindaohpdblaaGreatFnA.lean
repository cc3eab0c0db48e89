import Derived.Test.YtdnindaohpdblaaGreatAmE
set_option linter.all false
namespace Go.Proofs.YtdnindaohpdblaaGreat
open Go Go.RowKit Nt
set_option maxRecDepth 20000
set_option maxHeartbeats 16000000
section
variable {ops:Array Oper} {l:List Kd} {bx:Bxs} {sl:List (Tmp × Pr)} {i:Nat} {o:Oper} {Q:Exit->Act->World->Prop} {a0:Act} {n0:Nat} {w0:World}
end

section
variable {ops:Array Oper} {l:List Kd} {bx:Bxs} {sl:List (Tmp × Pr)} {i:Nat} {o:Oper} {Q:Exit->Act->World->Prop} {a0:Act} {n:Nat} {w0:World}
end

theorem zgd {M D1 R:Int}(h:D1≠0):(nx M D1 R).1*(R*D1)=M*(nx M D1 R).2:=by
 rw [nx]
 have hb:=(yge (A:=M) h).1
 split
 ·rename_i hr
  rw [hr,Int.add_zero] at hb
  show fl M D1*(R*D1)=M*R
  generalize fl M D1=q at hb
  subst hb
  grind
 ·rfl
section
variable {N R D0 D1 N' R' W dn:Int}
end
section
variable {ops:Array Oper} {l:List Kd} {bx:Bxs} {sl:List (Tmp × Pr)} {i:Nat} {o:Oper} {Q:Exit->Act->World->Prop} {a0:Act} {n:Nat} {w0:World}
end
theorem zgb {M D1 R:Int}{k r d:Nat}(h:D1≠0)(hM:(digs M.natAbs).length<=k)(hR:(digs R.natAbs).length<=r)(hD:(digs D1.natAbs).length<=d):(digs (nx M D1 R).1.natAbs).length<=k/\(digs (nx M D1 R).2.natAbs).length<=r+d:=by
 rw [nx]
 have hb:=(yge (A:=M) h).1
 split
 ·rename_i hr
  rw [hr,Int.add_zero] at hb
  refine ⟨zhb (yag ?_) hM,by show (digs R.natAbs).length<=_; omega⟩
  show (fl M D1).natAbs<=_
  rw [hb,zh3]
  refine zhb ?_ (zhm _ (show 1<=D1.natAbs by omega))
  rw [zi2,← hb]
  exact zha _
 ·exact ⟨hM,yet hR hD⟩
theorem zcr {D sh:List Int}{L:List (List Int)}{n k:Nat}:fS D sh L n (k+1)=nx (fM D sh L n k (fS D sh L n k)) (D.getD (n-1-k+1) 0) (fS D sh L n k).2:=by
 rw [fS,nx]
theorem yvh (D:List Int)(k:Nat):wtD D (k+1)=wtD D k+(digs (D.getD k 0).natAbs).length:=rfl
theorem zcs {D sh:List Int}{L:List (List Int)}(g:Good D L){Kd Ks n m W:Nat}(hn:n=L.length)(hm:m<=n)(hD:Dl D Kd)(hL:Mdl L Kd)(hs:Dl sh Ks)(hW:Ks+Kd+m+1<=W):∀ k,k<=m->(digs (fS D sh L n k).2.natAbs).length+wtD D (n+1-k)<=1+wtD D (n+1)/\(digs (fS D sh L n k).1.natAbs).length+wtD D (n-k)<=2*W+2+wtD D (n+1)+wtD D n+k
 | 0,_=>⟨by show (digs (1:Int).natAbs).length+_<=_; have:(digs (1:Int).natAbs).length<=1:=yf0; simp only [zj4]; omega,by show (digs (0:Int).natAbs).length+_<=_; rw [show (0:Int).natAbs=0 from rfl,yc8]; simp only [zj4,zjw]; omega⟩
 | k+1,h=>by
  obtain ⟨h1,h2⟩:=zcs (sh:=sh) g hn hm hD hL hs hW k (by omega)
  have hw:(digs (fW D sh L n k).natAbs).length<=W:=zhb (zct hD hL hs) (by omega)
  have hm1:D.getD (n-1-k+1) 0≠0:=Int.ne_of_gt (g.d _ (by have:=g.len; omega))
  have w1:wtD D (n+1-k)=wtD D (n+1-(k+1))+(digs (D.getD (n-1-k+1) 0).natAbs).length:=by
   rw [show n+1-k=(n+1-(k+1))+1 by omega,yvh,show n+1-(k+1)=n-1-k+1 by omega]
  have w2:wtD D (n-k)=wtD D (n-(k+1))+(digs (D.getD (n-1-k) 0).natAbs).length:=by
   rw [show n-k=(n-(k+1))+1 by omega,yvh,show n-(k+1)=n-1-k by omega]
  have w3:wtD D n<=wtD D (n+1):=by rw [yvh]; omega
  have w4:wtD D (n-(k+1))<=wtD D n:=by
   have:∀ a b,a<=b->wtD D a<=wtD D b:=fun a b hab=>by
    induction hab with
    | refl=>exact zha _
    | step _ ih=>rw [yvh]; omega
   exact this _ _ (by omega)
  have m1:(digs (fM D sh L n k (fS D sh L n k)).natAbs).length<=(2*W+2+wtD D (n+1)+wtD D n+k-wtD D (n-(k+1)))+1:=by
   refine yj7 (zhb (yet (zha _) (zha _)) (by omega)) (zhb (yet (zha _) (yet hw hw)) (by omega))
  obtain ⟨q1,q2⟩:=zgb (R:=(fS D sh L n k).2) hm1 m1 (zha _) (zha _)
  rw [zcr]
  exact ⟨by omega,by omega⟩
theorem yyg {z:Int}{k:Nat}(h:0 < z)(hz:(digs z.natAbs).length<=k):z=((z.toNat:Nat):Int)/\z.toNat≠0/\(digs z.toNat).length<=k:=by
 refine ⟨(Int.toNat_of_nonneg (Int.le_of_lt h)).symm,by omega,?_⟩
 rw [show z.toNat=z.natAbs by omega]
 exact hz
section
variable {D:List Int} {L:List (List Int)} {x τ:List Int} {dn T0 D0 D1 cn cd:Int} {nL m:Nat}
end
def TauOk (ts:List (Int × Int))(τ:List Int)(dn:Nat):Prop:=(ts.length=0->∀ j,τ.getD j 0=0)/\∀ j,j < ts.length->τ.getD j 0*(ts.getD j (0,0)).2=(ts.getD j (0,0)).1*(dn:Int)
theorem zex {ts:List (Int × Int)}{n:Nat}(h:DenOk ts):TauOk ts (tauL ts n) (cmN ts ts.length):=by
 refine ⟨fun h0 j=>?_,fun j hj=>?_⟩
 ·rw [tauL,if_pos h0,zhc,zi5]
  split <;> rfl
 ·rw [tauL,if_neg (by omega)]
  exact zgw h hj
def qF (D sh:List Int)(L:List (List Int))(n d k:Nat):Nat:=d*d*((fS D sh L n k).2.toNat*(fD D n k).toNat)
theorem yt3 {D sh:List Int}{L:List (List Int)}(g:Good D L){n d k:Nat}(hn:n=L.length)(hd:d≠0)(hk:k<=n):qF D sh L n d k≠0/\((qF D sh L n d k:Nat):Int)=(d:Int)*(d:Int)*((fS D sh L n k).2*fD D n k):=by
 have h1:=ysn (sh:=sh) g hn k hk
 have h2:=zcq g hn k hk
 refine ⟨zh2 (zh2 hd hd) (zh2 (by omega) (by omega)),?_⟩
 rw [qF]
 simp only [zho]
 rw [Int.toNat_of_nonneg (Int.le_of_lt h1),Int.toNat_of_nonneg (Int.le_of_lt h2)]
theorem zar {N R N' R' W F D0 D1 d:Int}(e:N'*(R*D1)=(N*D0+R*(W*W))*R')(h:F=D1\/(N=0/\F=1)):(N*(d*D1*(d*D1)*D0)+W*W*D1*(d*d*(R*F)))*(d*d*(R'*D0))=N'*((d*d*(R*F))*(d*D1*(d*D1)*D0)):=by
 have a2:N'*((d*d*(R*F))*(d*D1*(d*D1)*D0))=(N'*(R*D1))*(d*d*d*d*F*D1*D0):=by grind
 rw [a2,e]
 rcases h with h | ⟨h,h'⟩
 ·rw [h]; grind
 ·rw [h,h']; grind
theorem yto {D sh:List Int}{L:List (List Int)}(g:Good D L){n d k:Nat}(hn:n=L.length)(hd:d≠0)(hk:k < n):QQ ((fS D sh L n k).1*((d*dN D (n-1-k+1)*(d*dN D (n-1-k+1))*dN D (n-1-k):Nat):Int)+fW D sh L n k*fW D sh L n k*D.getD (n-1-k+1) 0*((qF D sh L n d k:Nat):Int)) (qF D sh L n d k*(d*dN D (n-1-k+1)*(d*dN D (n-1-k+1))*dN D (n-1-k)))=QQ (fS D sh L n (k+1)).1 (qF D sh L n d (k+1)):=by
 have hl:=g.len
 obtain ⟨q0,e0⟩:=yt3 (sh:=sh) g hn hd (k:=k) (by omega)
 obtain ⟨q1,e1⟩:=yt3 (sh:=sh) g hn hd (k:=k+1) (by omega)
 obtain ⟨h1,h2⟩:=yqy g (i:=n-1-k) (by omega)
 obtain ⟨h3,h4⟩:=yqy g (i:=n-1-k+1) (by omega)
 refine ynd (zh2 q0 (zh2 (zh2 (zh2 hd h4) (zh2 hd h4)) h2)) q1 ?_
 rw [zho (qF D sh L n d k)]
 rw [e0,e1,show fD D n (k+1)=D.getD (n-1-k) 0 from rfl]
 simp only [zho]
 rw [← h1,← h3]
 refine zar ?_ ?_
 ·rw [zcr]
  exact zgd (by rw [h3]; omega)
 ·cases k with
  | zero=>exact Or.inr ⟨rfl,rfl⟩
  | succ k=>exact Or.inl (by rw [fD,show n-1-(k+1)+1=n-1-k by omega])
theorem ytc {N rn:Int}{q rd:Nat}(hq:q≠0):(nR N q*(rd:Int)-rn*((dR N q:Nat):Int)).sign=(N*(rd:Int)-rn*(q:Int)).sign:=by
 have e1:=yia N q
 have hd:=yf3 (X:=N) hq
 have key:(nR N q*(rd:Int)-rn*((dR N q:Nat):Int))*(q:Int)=(N*(rd:Int)-rn*(q:Int))*((dR N q:Nat):Int):=by
  have a1:(nR N q*(rd:Int)-rn*((dR N q:Nat):Int))*(q:Int)=(nR N q*(q:Int))*(rd:Int)-rn*((dR N q:Nat):Int)*(q:Int):=by grind
  rw [a1,e1]
  grind
 have h2:=congrArg Int.sign key
 rw [zk6,zk6,zh7 (show (0:Int) < (q:Int) by omega),zh7 (show (0:Int) < ((dR N q:Nat):Int) by omega),Int.mul_one,Int.mul_one] at h2
 exact h2
theorem zgf {D sh:List Int}{L:List (List Int)}{n d k bd bR bD:Nat}(h1:(digs d).length<=bd)(h2:(digs (fS D sh L n k).2.natAbs).length<=bR)(h3:(digs (fD D n k).natAbs).length<=bD):(digs (qF D sh L n d k)).length<=bd+bd+(bR+bD):=by
 rw [qF]
 exact yaq (yaq h1 h1) (yaq (zhb (yag (by omega)) h2) (zhb (yag (by omega)) h3))
theorem zfy {D:List Int}{n K:Nat}(h:Dl D K):∀ k,(digs (fD D n k).natAbs).length<=K+1
 | 0=>by show (digs (1:Int).natAbs).length<=_; have:(digs (1:Int).natAbs).length<=1:=yf0; omega
 | k+1=>zhb (yb2 h _) (by omega)
theorem zav {D sh:List Int}{L:List (List Int)}(g:Good D L){n d k q:Nat}(hn:n=L.length)(hd:d≠0)(hk:k<=n)(h:(d:Int)*(d:Int)*((fS D sh L n k).2*D.getD (n-k) 0)=(q:Int))(hq:q≠0):QQ (fS D sh L n k).1 (qF D sh L n d k)=QQ (fS D sh L n k).1 q:=by
 obtain ⟨h1,h2⟩:=yt3 (sh:=sh) g hn hd hk
 cases k with
 | zero=>exact (ylm h1).symm.trans (ylm hq)
 | succ k =>
  congr 1
  have e:((qF D sh L n d (k+1):Nat):Int)=(q:Int):=by rw [h2,← h,show fD D n (k+1)=D.getD (n-(k+1)) 0 from by rw [fD,show n-1-k=n-(k+1) by omega]]
  omega
end Go.Proofs.YtdnindaohpdblaaGreat
