import Derived.Test.YtdnindaohpdblaaGreatSetK
set_option linter.all false
namespace Go.Proofs.YtdnindaohpdblaaGreat
open Go.RowKit Nt
set_option maxRecDepth 20000
set_option maxHeartbeats 16000000
theorem or32 (t l P q:Nat)(hP:∃ s,P=2 ^ s)(ht:t < P)(hl:l=q*P)(hb:t+l < 4294967296):bits .or .u32 (t:Int) (l:Int)=((t+l:Nat):Int):=by
 obtain ⟨s,rfl⟩:=hP
 subst hl
 rw [u32_or_nat t (q*2 ^ s) (by omega) (by omega)]
 have:t ||| q*2 ^ s=q*2 ^ s+t:=by rw [Nat.or_comm,← Nat.shiftLeft_eq,zjp ht]
 rw [this,zjt]
theorem zag {x P s:Nat}(hP:2 ^ s=P)(hs:s < 32):∃ q,x*P % 4294967296=q*P/\q*P+P<=4294967296:=by
 have e:(4294967296:Nat)=P*2 ^ (32-s):=by rw [← hP,← zit,show s+(32-s)=32 from by omega]
 refine ⟨x % 2 ^ (32-s),?_,?_⟩
 ·rw [e,zhd x P,Nat.mul_mod_mul_left,zhd]
 ·have h1:x % 2 ^ (32-s)+1<=2 ^ (32-s):=zic _ (zih _)
  have h2:P*(x % 2 ^ (32-s)+1)<=P*2 ^ (32-s):=zhm _ h1
  rw [← e,zht,zhd P] at h2
  omega
theorem zbs {K VY VA t P x l t':Nat}(h:VY+K*t=VA*P)(hl:l+4294967296*t'=x*P):VY+K*(t+l)+K*4294967296*t'=(VA+K*x)*P:=by
 have h2:K*(l+4294967296*t')=K*(x*P):=by rw [hl]
 rw [zht,← zhk,← zhk] at h2
 rw [zht,zhv]
 omega
theorem ze6 {VY VA P K S t e:Nat}(h:VY+K*t=VA*P)(he:S*P=e):S*(VY+K*t)=VA*e:=by
 rw [h,← he,zhd VA P,← zhk,zhd]
theorem up_c (w:World)(p:Option Addr)(n c:Nat)(xs:List Nat)(z:Int)(skip s:Nat)(h:Sl w p n c xs)(hz:z=32*skip+s)(hs:s < 32)(hsz:n+skip+1<=70368744177664):
  Calls Tryz.prog 139 #[.slice p n c,.int .i64 z] w fun e w'=>∃ r cr,e=.returned (.slice r (digs (val xs*2 ^ (32*skip+s))).length cr)/\Res w w' r cr (val xs*2 ^ (32*skip+s)):=by
 have HX:=hid h
 have hm:=h.max
 have hc:=h.cap
 unfold maxLen at hm
 have hq:z / 32=(skip:Int):=by omega
 have hr:z % 32=(s:Int):=by omega
 have hz0:0<=z:=by omega
 have hz1:z<=9223372036854775807:=by omega
 have HZZ:=hid hz
 have M:∀ W:World,(Instr.makeSlice 22 (.int .i64 ((n:Int)+skip+1)) (.int .i64 ((n:Int)+skip+1))).run Tryz.prog W=.ok (.slice (some ⟨W.heap.size,0,none⟩) (n+skip+1) (n+skip+1)) (W.alloc (.cells (U (List.replicate (n+skip+1) 0)).toArray 64)):=by
  have:=ydk (n+skip+1) (by omega)
  simpa using this
 obtain ⟨P,hP⟩:∃ P,2 ^ s=P:=⟨_,rfl⟩
 have hPi:(2:Int) ^ s=(P:Int):=by rw [← hP]; simp
 have hP0:0 < P:=by rw [← hP]; exact zih s
 have hP1:P<=2147483648:=by rw [← hP]; exact zhp (n:=2) (by omega) (show s<=31 by omega)
 have HP:=hid hP
 clear h hz hP
 go_enter Tryz.func139,Tryz.ntmps139
 go_wp2_with fail
 obtain ⟨W,hW⟩:∃ W,W=w.alloc (.cells (U (List.replicate (n+skip+1) 0)).toArray 64):=⟨_,rfl⟩
 have HB:=hid (show Below w.heap.size w W from by rw [hW]; exact (Below.refl _ _).alloc (zha _) _)
 have HG:=hid (show Blk W w.heap.size (List.replicate (n+skip+1) 0) from by rw [hW]; exact heap_alloc_last _ _)
 rw [← hW]
 clear hW M
 obtain ⟨g,hg⟩:∃ g,g=w.heap.size:=⟨_,rfl⟩
 rw [← hg] at HG ⊢
 have HGE:=hid hg
 clear hg
 go_loopw [22] (fun i wr=>∃ k t:Nat,k<=n/\i=.int .i64 k/\t < P/\∃ Y:List Nat,Hid (Y.length=k/\Ok Y/\val Y+4294967296 ^ k*t=val (xs.take k)*P/\Wr W g (List.replicate skip 0 ++ (Y ++ (t :: List.replicate (n-k) 0)) ++ []) wr)) (fun i _=>n-(intOf i).toNat)
 case atStart =>
  refine ⟨0,0,zhs _,rfl,hP0,[],rfl,Ok.nil,by simp [val],?_⟩
  have:=Wr.refl HG.out
  rw [zhz,zh8,zj4,← zky,zkc,show skip+(n+1)=n+skip+1 from by omega]
  exact this
 case round =>
  obtain ⟨k,t,hk,rfl,htP,Y,HY⟩:=hrel
  by_cases hlt:k < n
  ·obtain ⟨b,o,rfl,hcell⟩:=HY.out.2.2.2.limbs (HX.out.below HB.out).lie (HX.out.apart (by rw [HGE.out]; exact zha _)) k (by rw [HX.out.len]; exact hlt)
   obtain ⟨x,hx⟩:∃ x,xs.getD k 0=x:=⟨_,rfl⟩
   rw [hx] at hcell
   have hxb:x < 4294967296:=by rw [← hx]; exact HX.out.ok.getD k
   have hxP:x*P<=9223372034707292160:=by
    have h1:x*P<=4294967295*2147483648:=ziz (by omega) hP1
    omega
   have hxP':(x:Int)*(P:Int)<=9223372034707292160:=by rw [← zho]; omega
   have hxP0:0<=(x:Int)*(P:Int):=by rw [← zho]; omega
   have hblk:=Wr.blk HG.out HY.out.2.2.2
   have hc1:=hblk.cell (skip+k) (by have:=HY.out.1; simp; omega)
   have hf1:=hblk.frozen (skip+k)
   have hc2:=hblk.cell (skip+k+1) (by have:=HY.out.1; simp; omega)
   have hf2:=hblk.frozen (skip+k+1)
   have hg1:(List.replicate skip 0 ++ (Y ++ (t :: List.replicate (n-k) 0)) ++ []).getD (skip+k) 0=t:=by
    have:=HY.out.1
    simp [zhc,zhr,zhq,this]
   rw [hg1] at hc1
   obtain ⟨u,hu⟩:∃ u,(List.replicate skip 0 ++ (Y ++ (t :: List.replicate (n-k) 0)) ++ []).getD (skip+k+1) 0=u:=⟨_,rfl⟩
   rw [hu] at hc2
   have HXK:=hid hx
   have HXP:=hid hxP
   clear hx hxP hblk hg1 hu
   go_wp2
   go_roundw
   case rel =>
    obtain ⟨y1,y2,y3,y4⟩:=HY.out
    obtain ⟨q,q1,q2⟩:=zag (x:=x) HP.out hs
    have hxp:=HXP.out
    have e0:(x:Int)*(P:Int) % 4294967296=((q*P:Nat):Int):=by rw [← zho,← q1]; simp
    have e1:(x:Int)*(P:Int) / 4294967296=((x*P / 4294967296:Nat):Int):=by rw [← zho]; simp
    have e2:bits BinOp.or IntKind.u32 (t:Int) ((x:Int)*(P:Int) % 4294967296)=((t+q*P:Nat):Int):=by
     rw [e0]; exact or32 t (q*P) P q ⟨s,HP.out.symm⟩ htP rfl (by omega)
    have hx2:x*P / 4294967296 < P:=by
     apply zik
     rw [zhd 4294967296 P,zhd x P]
     exact Nat.mul_lt_mul_of_pos_left hxb hP0
    rw [e2,e1]
    refine ⟨k+1,x*P / 4294967296,by omega,by go_num,hx2,Y ++ [t+q*P],by simp [y1],y2.snoc (by omega),?_,?_⟩
    ·rw [yci,y1,yau xs k (by rw [HX.out.len]; omega),zhu,HXK.out]
     exact zbs y3 (by omega)
    ·have w1:=Wr.set HG.out y4 (skip+k) (t+q*P)
     have s1:=yfy (List.replicate skip 0) Y (List.replicate (n-k) 0) [] k t (t+q*P) y1
     rw [zir] at s1
     rw [s1] at w1
     have w2:=Wr.set HG.out w1 (skip+k+1) (x*P / 4294967296)
     have er:List.replicate (n-k) 0=0 :: List.replicate (n-(k+1)) 0:=by rw [← zky]; congr 1; omega
     rw [er] at w2
     have s2:=yfy (List.replicate skip 0) (Y ++ [t+q*P]) (List.replicate (n-(k+1)) 0) [] (k+1) 0 (x*P / 4294967296) (by simp [y1])
     rw [zir,← Nat.add_assoc] at s2
     rw [s2] at w2
     rw [zhr (Y ++ [t+q*P])] at w2
     exact w2
   case measure=>simp [intOf]; omega
  ·obtain ⟨y1,y2,y3,y4⟩:=HY.out
   have hkn:k=n:=by omega
   rw [hkn,zio,zjk,zhz] at y4
   rw [hkn,zhg (by rw [HX.out.len]; exact zha _)] at y3
   rw [hkn] at y1
   have hblk:=Wr.blk HG.out y4
   have ho:Ok (List.replicate skip 0 ++ (Y ++ [t])):=(Ok.replicate _).append (y2.snoc (by omega))
   have hl:(List.replicate skip 0 ++ (Y ++ [t])).length=n+skip+1:=by simp [y1]; omega
   have hv:val (List.replicate skip 0 ++ (Y ++ [t]))=val xs*2 ^ (32*skip+s):=by
    rw [yb7,yct,zir,yci,y1,zig]
    exact ze6 y3 (by rw [zit,← HP.out,zjl])
   have T3:=hid (ynu wr (some ⟨g,0,none⟩) (n+skip+1) (n+skip+1) (digs (val xs*2 ^ (32*skip+s))).length (List.replicate skip 0 ++ (Y ++ [t])) (by rw [hv]) hl (zha _) (by unfold maxLen; omega) ho hblk.limbs)
   have RR:=hid (Res.row (w:=w) (w':=wr) (y4.below HB.out (by rw [HGE.out]; exact zha _)) hblk ho hv (by rw [HGE.out]; exact zha _) hl (by unfold maxLen; omega))
   clear y1 y2 y3 y4 hblk ho hl hv hkn
   go_wp2_with fail
   refine T3.out.mono ?_
   rintro e w3 ⟨rfl,rfl⟩
   go_wp2
   go_ret
   exact ⟨_,_,rfl,RR.out⟩
def shrl (P:Nat):List Nat->List Nat
 | []=>[]
 | x :: r=>(x+4294967296*r.headD 0) / P % 4294967296 :: shrl P r
theorem ydq (P:Nat):∀ l,(shrl P l).length=l.length
 | []=>rfl
 | x :: r=>by simp [shrl,ydq P r]
theorem yl7 (P:Nat):∀ l,Ok (shrl P l)
 | []=>Ok.nil
 | x :: r=>Ok.cons (zic _ (by omega)) (yl7 P r)
theorem yux {x h V P Q:Nat}(hQ:4294967296=P*Q)(hP:0 < P)(hx:x < 4294967296)(hV:V % 4294967296=h):(x+4294967296*V) / P=(x+4294967296*h) / P % 4294967296+4294967296*(V / P):=by
 have hr:V % P=h % P:=by rw [← hV,hQ,Nat.mod_mul_right_mod]
 have e1:=zh9 V P
 have e2:=zh9 h P
 generalize V / P=a at *
 generalize h / P=b at *
 rw [hr] at e1
 generalize h % P=ρ at *
 have hρ:ρ < P:=by
  have:V % P < P:=zic _ hP
  omega
 have k1:x+4294967296*V=x+4294967296*ρ+P*(4294967296*a):=by
  rw [← e1,zht,← zhk,zhd 4294967296 P,zhk]; omega
 have k2:x+4294967296*h=x+4294967296*ρ+P*(4294967296*b):=by
  rw [← e2,zht,← zhk,zhd 4294967296 P,zhk]; omega
 rw [k1,k2,Nat.add_mul_div_left _ _ hP,Nat.add_mul_div_left _ _ hP,Nat.add_mul_mod_self_left]
 have hlt:(x+4294967296*ρ) / P < 4294967296:=by
  apply zik
  have:4294967296*(ρ+1)<=4294967296*P:=zhm _ hρ
  rw [zhd P]
  omega
 rw [zi7 hlt]
theorem yxk (r:List Nat)(h:Ok r):val r % 4294967296=r.headD 0:=by
 cases r with
 | nil=>rfl
 | cons y t=>have:=h.head; simp [val]; omega
theorem yl8 {P Q:Nat}(hQ:4294967296=P*Q)(hP:0 < P):∀ l,Ok l->val (shrl P l)=val l / P
 | [],_=>by simp [shrl,val]
 | x :: r,ho=>by
  simp only [shrl,val]
  rw [yl8 hQ hP r ho.tail,yux hQ hP ho.head (yxk r ho.tail)]
theorem yrb (xs:List Nat)(k:Nat):(xs.drop k).headD 0=xs.getD k 0:=by
 simp [List.headD_eq_head?_getD,List.head?_drop]
theorem ygi {xs:List Nat}(ho:Ok xs)(k:Nat):val (xs.drop k)=val xs / 4294967296 ^ k:=by
 by_cases h:k<=xs.length
 ·have e:=yck xs k h
  have hl:=yc1 (ho.take k)
  rw [zh6,ziq h] at hl
  rw [e,Nat.add_mul_div_left _ _ (zkp (by omega)),zi8 hl,zig]
 ·rw [ziu (by omega)]
  have h2:=yc1 ho
  have h3:(4294967296:Nat) ^ xs.length<=4294967296 ^ k:=zhp (by omega) (by omega)
  rw [zi8 (by omega)]
  rfl
theorem yxz (w:World)(p:Option Addr)(n c:Nat)(xs:List Nat)(z:Int)(skip s:Nat)(h:Sl w p n c xs)(hz:z=32*skip+s)(hs:s < 32)(hz1:z<=9223372036854775807)(hsz:n<=70368744177664):
  Calls Tryz.prog 141 #[.slice p n c,.int .i64 z] w fun e w'=>∃ r cr,e=.returned (.slice r (digs (val xs / 2 ^ (32*skip+s))).length cr)/\Res w w' r cr (val xs / 2 ^ (32*skip+s)):=by
 have HX:=hid h
 have hm:=h.max
 have hc:=h.cap
 unfold maxLen at hm
 have hq:z / 32=(skip:Int):=by omega
 have hr:z % 32=(s:Int):=by omega
 have hz0:0<=z:=by omega
 have hval:val xs / 2 ^ (32*skip+s)=val (xs.drop skip) / 2 ^ s:=by
  rw [ygi h.ok,zit,zjl,← zi1]
 rw [hval]
 have HZZ:=hid hz
 clear h hval hz
 by_cases hsk:n<=skip
 ·have hnil:xs.drop skip=[]:=ziu (by rw [HX.out.len]; exact hsk)
  have hv0:val (xs.drop skip) / 2 ^ s=0:=by rw [hnil]; simp [val]
  rw [hv0]
  clear hnil hv0
  go_enter Tryz.func141,Tryz.ntmps141
  go_wp2
  go_ret
  exact ⟨none,0,rfl,Res.nil (Below.refl _ _)⟩
 obtain ⟨L,hL⟩:∃ L,n=skip+L:=⟨n-skip,by omega⟩
 subst hL
 have M:∀ W:World,(Instr.makeSlice 22 (.int .i64 (L:Int)) (.int .i64 (L:Int))).run Tryz.prog W=.ok (.slice (some ⟨W.heap.size,0,none⟩) L L) (W.alloc (.cells (U (List.replicate L 0)).toArray 64)):=ydk L (by omega)
 have hLi:((skip+L:Nat):Int)-(skip:Int)=(L:Int):=by omega
 have hLi2:(skip:Int)+(L:Int)-(skip:Int)=(L:Int):=by omega
 obtain ⟨P,hP⟩:∃ P,2 ^ s=P:=⟨_,rfl⟩
 have hPi:(2:Int) ^ s=(P:Int):=by rw [← hP]; simp
 have hP0:0 < P:=by rw [← hP]; exact zih s
 have hPQ:4294967296=P*2 ^ (32-s):=by rw [← hP,← zit,show s+(32-s)=32 from by omega]
 have HP:=hid hP
 have HPQ:=hid hPQ
 rw [hP]
 clear hP hPQ
 go_enter Tryz.func141,Tryz.ntmps141
 go_wp2_with fail
 obtain ⟨W,hW⟩:∃ W,W=w.alloc (.cells (U (List.replicate L 0)).toArray 64):=⟨_,rfl⟩
 have HB:=hid (show Below w.heap.size w W from by rw [hW]; exact (Below.refl _ _).alloc (zha _) _)
 have HG:=hid (show Blk W w.heap.size (List.replicate L 0) from by rw [hW]; exact heap_alloc_last _ _)
 rw [← hW]
 clear hW M
 obtain ⟨g,hg⟩:∃ g,g=w.heap.size:=⟨_,rfl⟩
 rw [← hg] at HG ⊢
 have HGE:=hid hg
 clear hg
 go_loopw [8,26] (fun v i wr=>∃ k ab:Nat,k<=L/\i=.int .i64 k/\v=.int .u64 ab/\ab < 18446744073709551616/\Hid (ab % 4294967296=xs.getD (skip+L-k) 0/\Wr W g (List.replicate (L-k) 0 ++ shrl P (xs.drop (skip+L-k))) wr)) (fun _ i _=>L-(intOf i).toNat)
 case atStart =>
  refine ⟨0,0,zhs _,rfl,rfl,by omega,?_,?_⟩
  ·rw [zhc,zim (by rw [HX.out.len]; omega)]; rfl
  ·rw [ziu (by rw [HX.out.len]; omega)]
   simpa [shrl] using Wr.refl HG.out
 case round =>
  obtain ⟨k,ab,hk,rfl,rfl,hab,HR⟩:=hrel
  by_cases hlt:k < L
  ·obtain ⟨b,o,rfl,hcell⟩:=HR.out.2.limbs (HX.out.below HB.out).lie (HX.out.apart (by rw [HGE.out]; exact zha _)) (skip+(L-1-k)) (by rw [HX.out.len]; omega)
   obtain ⟨x,hx⟩:∃ x,xs.getD (skip+(L-1-k)) 0=x:=⟨_,rfl⟩
   rw [hx] at hcell
   have hxb:x < 4294967296:=by rw [← hx]; exact HX.out.ok.getD _
   obtain ⟨hi,hhi⟩:∃ hi,xs.getD (skip+L-k) 0=hi:=⟨_,rfl⟩
   have hhb:hi < 4294967296:=by rw [← hhi]; exact HX.out.ok.getD _
   have habm:ab % 4294967296=hi:=by rw [← hhi]; exact HR.out.1
   have hw:IntKind.u64.wrap ((ab:Int)*4294967296)=(hi:Int)*4294967296:=by rw [IntKind.wrap_u64]; omega
   obtain ⟨A,hA⟩:∃ A,x+4294967296*hi=A:=⟨_,rfl⟩
   have hor:bits .or .u64 ((hi:Int)*4294967296) (x:Int)=(A:Int):=by rw [or64' x hi hxb hhb,hA]
   have hAb:A < 18446744073709551616:=by omega
   have hblk:=Wr.blk HG.out HR.out.2
   have hc1:=hblk.cell (L-1-k) (by simp [ydq]; have:=HX.out.len; omega)
   have hf1:=hblk.frozen (L-1-k)
   obtain ⟨u,hu⟩:∃ u,(List.replicate (L-k) 0 ++ shrl P (xs.drop (skip+L-k))).getD (L-1-k) 0=u:=⟨_,rfl⟩
   rw [hu] at hc1
   have HXK:=hid hx
   have HHI:=hid hhi
   have HA:=hid hA
   clear hx hhi hA hu hblk habm
   go_wp2
   go_roundw
   case rel =>
    have hidx:skip+L-(k+1)=skip+(L-1-k):=by omega
    have hAm:A % 4294967296=x:=by rw [← HA.out]; omega
    have hd:xs.drop (skip+(L-1-k))=x :: xs.drop (skip+L-k):=by
     rw [yeu xs (skip+(L-1-k)) (by rw [HX.out.len]; omega),HXK.out]
     congr 2; omega
    refine ⟨k+1,A,by omega,by go_num,rfl,hAb,?_,?_⟩
    ·rw [hidx,HXK.out]; exact hAm
    ·have w1:=Wr.set HG.out HR.out.2 (L-1-k) (A / P % 4294967296)
     have er:List.replicate (L-k) 0=List.replicate (L-1-k) 0 ++ [0]:=by rw [← zji]; congr 1; omega
     rw [er] at w1
     have s1:=yfy (List.replicate (L-1-k) 0) [] (shrl P (xs.drop (skip+L-k))) [] 0 0 (A / P % 4294967296) rfl
     simp only [zh8,zhz,zif,zir] at s1
     rw [zhr,zis,s1] at w1
     rw [hidx,hd,show L-(k+1)=L-1-k from by omega]
     simp only [shrl]
     rw [yrb,HHI.out,HA.out]
     have ev:(A:Int) / (P:Int) % 4294967296=((A / P % 4294967296:Nat):Int):=by simp
     rw [ev]
     simpa using w1
   case measure=>simp [intOf]; omega
  ·have hkL:k=L:=by omega
   subst hkL
   have hw2:=HR.out.2
   rw [zio,zjk,zh8,ziw] at hw2
   have hblk:=Wr.blk HG.out hw2
   have hl:(shrl P (xs.drop skip)).length=k:=by rw [ydq]; simp; have:=HX.out.len; omega
   have hv:val (shrl P (xs.drop skip))=val (xs.drop skip) / P:=yl8 HPQ.out hP0 _ (HX.out.ok.drop skip)
   have T3:=hid (ynu wr (some ⟨g,0,none⟩) k k (digs (val (xs.drop skip) / P)).length (shrl P (xs.drop skip)) (by rw [hv]) hl (zha _) (by unfold maxLen; omega) (yl7 _ _) hblk.limbs)
   have RR:=hid (Res.row (w:=w) (w':=wr) (hw2.below HB.out (by rw [HGE.out]; exact zha _)) hblk (yl7 _ _) hv (by rw [HGE.out]; exact zha _) hl (by unfold maxLen; omega))
   clear hw2 hblk hl hv
   go_wp2_with fail
   refine T3.out.mono ?_
   rintro e w3 ⟨rfl,rfl⟩
   go_wp2
   go_ret
   exact ⟨_,_,rfl,RR.out⟩
def shrV (v:Nat)(z:Int):Nat:=if z < 0 then 0 else v / 2 ^ z.toNat
def shrE (z:Int):Int:=if z < 0 then 1 else 0
theorem yyh (w:World):Sl w none (digs 0).length 0 (digs 0):=Sl.none w
end Go.Proofs.YtdnindaohpdblaaGreat
