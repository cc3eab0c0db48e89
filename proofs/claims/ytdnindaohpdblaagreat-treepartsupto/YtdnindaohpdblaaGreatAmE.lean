import Derived.Test.YtdnindaohpdblaaGreatAmB
import Derived.Test.YtdnindaohpdblaaGreatJaC
set_option linter.all false
namespace Go.Proofs.YtdnindaohpdblaaGreat
open Go Go.RowKit Nt
set_option maxRecDepth 20000
set_option maxHeartbeats 16000000
theorem zrtG (w:World)(s:Bool)(p:Option Addr)(n c:Nat)(xs:List Nat)(h:Sl w p n c xs)(A:Int)(eA:sg s (val xs)=A)(hn:n<=1073741824)(hA:0<=A.sign):
  Calls Tryz.prog 142 #[.agg #[.bool s,.slice p n c]] w (Gives (TWO (ZN (sg false (rt (val xs)))) (IS (.int .i64 0))) w):=by
 have drt:=zei h
 have dA:(digs A.natAbs).length<=n:=by rw [← eA]; exact yj0 h
 refine yak (sl:=[(0,(Zx s p n c xs))]) Tryz.func142 rfl Tryz.ntmps142 (by simp) (yae rfl (yhs h) yao) ?_
 intro a0 S0
 refine wq [.new (.box 24 (Zx s p n c xs)),.new (.box 24 zI),V (iV 0)] [.inl 0,.inl 1] [] S0 ?_ ?_
 ·exact jj3 (bxA wA (oS 0 0) (yes ye3)) (nwA wA yar) mC
 intro _ a1 _ (S1:Zt [_,_] [])
 refine wp_seq ?_
 refine wq [V (Zx s p n c xs),V (iV ((A).sign)),kF] ur2 [.inl 2] S1 ?_ ?_
 ·exact jj3 (loA 0 wA yad ye3) (cc1 wA (qO 0 4 rfl) (yab _) (fun w u h1=>zc5 (by omega) w u ((ynw eA (zha _)) _ _ h1))) (ybc wA (oO 1 5) (yaa _) (h:=hA))
 intro _ a2 _ (S2:Zt [_,_] [_])
 refine wp_cond_false (S2.bool 0 6 rfl) (wp_skip (thenN ?_))
 refine wq [V (Part a2 1 1),V (Nx p n c xs),Fw (NN (rt (val xs))) w,Fw (ZN (sg false (rt (val xs)))) w,.put (.inl 2) (.box 24 ((ZN (sg false (rt (val xs)))) w.heap.size)),V (iV 0)] [.inr 1] [.inl 5] S2 ?_ ?_
 ·exact jj6 (ptA wA 0 ydm) (plA wA (oO 0 8) 0 rfl rfl (ydn yjy)) (cc1 wA (qO 1 9 rfl) (yfv _) (fun w u h1=>zc2 (by omega) w u ((yoe (zha _)) _ _ h1))) (ykl rfl wA rfl (yaa _) (oO 2 10) rfl (fun args w=>by go_simp) ypi) (seA 1 wA (oO 3 11) yad ya9 yai) mC
 intro _ a3 _ (S3:Zt [_] [_])
 refine wp_ret ?_
 exact ydi S3 rfl (ybb S3 0 2 rfl yad yai) (yay S3 0 3 rfl)
theorem ywe {A:Int}{k:Nat}{ρ:Int}(hk:k<=1073741824)(hA:0<=A)(eρ:((rt A.natAbs:Nat):Int)=ρ):∀ w u,Zv A k u w->CG 142 #[u] w (TWO (ZN ρ) (IS (.int .i64 0))):=by
 rintro w u ⟨s,p,n,c,xs,rfl,h,rfl,hn⟩
 rw [sg_abs] at eρ
 rw [← eρ]
 exact zrtG w s p n c xs h _ rfl (by omega) (yjs hA)
abbrev yhm  : Rk:=.box 24 zI
theorem zgk (w:World)(pa:Value)(nD nL nT K:Nat)(D:List Int)(L:List (List Int))(τ:List Int)(dn:Int)(hD:nD<=1048577)(hL:nL<=1048576)(hT:nT<=1048576)(hK:K<=16777216)(lD:D.length=nD)(lL:L.length=nL)(lT:τ.length=nT)(u:Value)(k Ks KB KN KR:Nat)(sh:List Int)(b N R:Int)(h:Hs w (SP (AP pa nD nL nT K D L τ dn) (Vv k sh Ks) (Zv b KB) (Zv N KN) (Zv R KR)) u)(hk:k < nL)(ls:sh.length=k)(hnT:nT=nL)(hnD:nD=nL+1)(r:Value)(rn rd D0 D1 lf:Int)(Kr:Nat)(hr:Hs w (PR (Zv rn Kr) (Zv rd Kr)) r)(hKr:Kr<=67108864)(hKN:KN<=134217728)(hKR:KR<=134217728)(eD0:D.getD (nL-1-k) 0=D0)(eD1:D.getD (nL-1-k+1) 0=D1)(elf:rn*(dn*dn)*(D1*R)-N*rd=lf)(sq ρ:Int)(psi:Nat->Pr)(hl:(lf < 0/\psi=(TWO (IS (.agg #[.bool false,.slice none 0 0])) (IS (.bool false))))\/(0<=lf/\rd*R≠0/\fl (lf*D0) (rd*R)=sq/\0<=sq/\((rt sq.natAbs:Nat):Int)=ρ/\psi=(TWO (ZN (ρ)) (IS (.bool true))))):
  CG 134 #[u,r] w psi:=by
 obtain ⟨_,_,_,_,_,ha,_,_,hNv,hRv⟩:=you h.now
 have hamd:=ymg ha
 have hpN:=ye7 hNv
 have hpR:=ye7 hRv
 obtain ⟨_,_,_,_,_,hrn,hrd⟩:=hr.now
 have hpn:=ye7 hrn
 have hpd:=ye7 hrd
 have hp0:(digs D0.natAbs).length<=K:=by rw [← eD0]; exact yb2 hamd.1 _
 have hp1:(digs D1.natAbs).length<=K:=by rw [← eD1]; exact yb2 hamd.1 _
 have q1:(digs (dn*dn).natAbs).length<=33554432:=by rw [zh3]; exact zhb (yaq hamd.2.2.2 hamd.2.2.2) (by omega)
 have q2:(digs (rn*(dn*dn)).natAbs).length<=100663296:=by rw [zh3]; exact zhb (yaq hpn q1) (by omega)
 have q3:(digs (D1*R).natAbs).length<=150994944:=by rw [zh3]; exact zhb (yaq hp1 hpR) (by omega)
 have q4:(digs (rn*(dn*dn)*(D1*R)).natAbs).length<=251658240:=by rw [zh3]; exact zhb (yaq q2 q3) (by omega)
 have q5:(digs (N*rd).natAbs).length<=251658240:=by rw [zh3]; exact zhb (yaq hpN hpd) (by omega)
 have q6:(digs (lf).natAbs).length<=251658241:=by rw [← elf]; exact yec q4 q5
 have q7:(digs (lf*D0).natAbs).length<=268435457:=by rw [zh3]; exact zhb (yaq q6 hp0) (by omega)
 have q8:(digs (rd*R).natAbs).length<=201326592:=by rw [zh3]; exact zhb (yaq hpd hpR) (by omega)
 refine yak (sl:=[(0,(SP (AP pa nD nL nT K D L τ dn) (Vv k sh Ks) (Zv b KB) (Zv N KN) (Zv R KR))),(1,(PR (Zv rn Kr) (Zv rd Kr)))]) Tryz.func134 rfl Tryz.ntmps134 (by simp) (yae rfl (h) (yae rfl (hr) yao)) ?_
 intro a0 S0
 refine wq [.new (.box 75 (SP (AP pa nD nL nT K D L τ dn) (Vv k sh Ks) (Zv b KB) (Zv N KN) (Zv R KR))),.new (.box 26 (PR (Zv rn Kr) (Zv rd Kr))),.new (yhm),kF] [.inl 0,.inl 1,.inl 2] [] S0 ?_ ?_
 ·exact jj4 (bxA wA (oS 0 0) (yek yby)) (bxA wA (oS 1 1) (yfq (ybm yan yan))) (nwA wA yar) mC
 intro _ a1 _ (S1:Zt [_,_,_] [])
 refine wq [V (Part a1 2 0),V (AP pa nD nL nT K D L τ dn),V (Part a1 2 0),V (AP pa nD nL nT K D L τ dn),V (AP pa nD nL nT K D L τ dn),V (AtE 2 (SF [(Vv nD D K),(Mv nL L K)])),V (AtE 1 (Vv nD D K)),V (Vv nD D K),V (SP (AP pa nD nL nT K D L τ dn) (Vv k sh Ks) (Zv b KB) (Zv N KN) (Zv R KR)),V (iV ((nL-1-k:Nat):Int)),V (AtE 2 (Zv D0 K)),V (Zv D0 K),V (Part a1 2 0),V (AP pa nD nL nT K D L τ dn),V (AP pa nD nL nT K D L τ dn),V (AtE 2 (SF [(Vv nD D K),(Mv nL L K)])),V (AtE 1 (Vv nD D K)),V (Vv nD D K),V (SP (AP pa nD nL nT K D L τ dn) (Vv k sh Ks) (Zv b KB) (Zv N KN) (Zv R KR)),V (iV ((nL-1-k:Nat):Int)),V (iV ((nL-1-k+1:Nat):Int)),V (AtE 2 (Zv D1 K)),V (Zv D1 K),.new (yhm),.new (yhm),V (AP pa nD nL nT K D L τ dn),.put (.inr 23) (.box 24 (Zv D0 K)),.put (.inr 24) (.box 24 (Zv D1 K))] [.inr 0,.inr 1,.inr 2,.inl 23,.inl 24] [.inl 25] S1 ?_ ?_
 ·exact ⟨⟨⟨⟨⟨⟨⟨⟨⟨⟨⟨⟨⟨⟨⟨⟨⟨⟨⟨⟨jj8 (ptZ wA 0 ycv) (plA wA (oO 0 16) 0 rfl rfl (ybg ydt (k:=0) rfl (by decide) (by decide))) (ptZ wA 0 ycv) (plA wA (oO 2 18) 0 rfl rfl (ybg ydt (k:=0) rfl (by decide) (by decide))) (ycq rfl wA rfl (oO 3 19) yf2 rfl) (ybu (d:=0) rfl wA rfl ((oO 4 20).imp yf4) (fun ρ w b k h=>yed ρ _ _ w b k h) ymf rfl) (ybu (d:=0) rfl wA rfl (oO 5 21) (fun ρ w b k h=>yfi ρ _ _ w b k h) (ynm (f:=0) rfl) rfl) (alA wA ycf yez (oO 6 22)),loA 0 wA ybd yby⟩,ch1 wA (qO 8 24 rfl) (yab _) (fun w u0 h0=>(yov w pa nD nL nT K D L τ dn hD hL hT hK lD lL lT u0 _ _ _ _ _ _ _ _ _ h0 (by omega) ls ((nL-1-k:Nat):Int) (by omega)))⟩,axA wA yb5 (oO 7 23) (oO 9 25) (by rw [← eD0]; exact yej (by omega)) rfl⟩,alC wA yba yan (oO 10 26)⟩,ptZ wA 0 ycv⟩,plA wA (oO 12 28) 0 rfl rfl (ybg ydt (k:=0) rfl (by decide) (by decide))⟩,ycq rfl wA rfl (oO 13 29) yf2 rfl⟩,ybu (d:=0) rfl wA rfl ((oO 14 30).imp yf4) (fun ρ w b k h=>yed ρ _ _ w b k h) ymf rfl⟩,ybu (d:=0) rfl wA rfl (oO 15 31) (fun ρ w b k h=>yfi ρ _ _ w b k h) (ynm (f:=0) rfl) rfl⟩,alA wA ycf yez (oO 16 32)⟩,loA 0 wA ybd yby⟩,ch1 wA (qO 18 34 rfl) (yab _) (fun w u0 h0=>(yov w pa nD nL nT K D L τ dn hD hL hT hK lD lL lT u0 _ _ _ _ _ _ _ _ _ h0 (by omega) ls ((nL-1-k:Nat):Int) (by omega)))⟩,ya7 wA (oO 19 35) (yaa _)⟩,axA wA yb5 (oO 17 33) (oO 20 36) (by rw [← eD1]; exact yej (by omega)) rfl⟩,alC wA yba yan (oO 21 37)⟩,nwA wA yar⟩,nwA wA yar⟩,mO 1 17⟩,puA 23 wA (oO 11 27) yad ya9 yan⟩,puA 24 wA (oO 22 38) yad ya9 yan⟩
 intro _ a2 _ (S2:Zt [_,_,_,_,_] [_])
 refine wq [V (Part a2 3 0),V (Zv rn Kr),V (AP pa nD nL nT K D L τ dn),V (AP pa nD nL nT K D L τ dn),V (AtE 2 (Zv dn K)),V (Zv dn K),V (AP pa nD nL nT K D L τ dn),V (AP pa nD nL nT K D L τ dn),V (AtE 2 (Zv dn K)),V (Zv dn K),Fw (ZN (dn*dn)) w,Fw (ZN (rn*(dn*dn))) w,V (Zv D1 K),V (Part a2 2 6),V (Zv R KR),Fw (ZN (D1*R)) w,Fw (ZN ((rn*(dn*dn))*(D1*R))) w,.new (yhm),.put (.inr 17) (.box 24 ((ZN ((rn*(dn*dn))*(D1*R))) w.heap.size))] [.inr 0,.inr 1,.inr 2,.inr 3,.inl 17] [] S2 ?_ ?_
 ·exact ⟨⟨⟨⟨⟨⟨⟨⟨⟨⟨⟨jj8 (ptZ wA 1 yca) (plA wA (oO 0 39) 1 rfl rfl ydo) (mS 0 6) (ycq rfl wA rfl (oO 2 41) yf2 rfl) (ybu (d:=3) rfl wA rfl ((oO 3 42).imp yf4) (fun ρ w b k h=>yfh ρ _ _ w b k h) yqp rfl) (alC wA yba yan (oO 4 43)) (mS 0 6) (ycq rfl wA rfl (oO 6 45) yf2 rfl),ybu (d:=3) rfl wA rfl ((oO 7 46).imp yf4) (fun ρ w b k h=>yfh ρ _ _ w b k h) yqp rfl⟩,alC wA yba yan (oO 8 47)⟩,cc2 wA (qO 5 44 rfl) (qO 9 48 rfl) (yah _) (fun w u v h1 h2=>ydv (by omega) w u v ((fun _ _ h=>h) _ _ h1) ((fun _ _ h=>h) _ _ h2))⟩,cc2 wA (qO 1 40 rfl) (qO 10 49 rfl) (yah _) (fun w u v h1 h2=>ydv (by omega) w u v ((fun _ _ h=>h) _ _ h1) ((ybf q1) _ _ h2))⟩,loA 4 wA yad yan⟩,ptA wA 0 yd7⟩,plA wA (oO 13 52) 0 rfl rfl (ybg yba (k:=4) rfl (by decide) (by decide))⟩,cc2 wA (qO 12 51 rfl) (qO 14 53 rfl) (yah _) (fun w u v h1 h2=>ydv (by omega) w u v ((fun _ _ h=>h) _ _ h1) ((fun _ _ h=>h) _ _ h2))⟩,cc2 wA (qO 11 50 rfl) (qO 15 54 rfl) (yah _) (fun w u v h1 h2=>ydv (by omega) w u v ((ybf q2) _ _ h1) ((ybf q3) _ _ h2))⟩,nwA wA yar⟩,puA 17 wA (oO 16 55) yad ya9 yai⟩
 intro _ a3 _ (S3:Zt [_,_,_,_,_] [])
 refine wq [Fw (ZN ((rn*(dn*dn))*(D1*R))) w,V (Part a3 2 4),V (Zv N KN),V (Part a3 3 2),V (Zv rd Kr),Fw (ZN (N*rd)) w,Fw (ZN (lf)) w,.new (yhm),.put (.inr 7) (.box 24 ((ZN (lf)) w.heap.size))] [.inr 0,.inr 1,.inr 2,.inr 3,.inl 7] [] S3 ?_ ?_
 ·exact ⟨jj8 (loA 4 wA yad yai) (ptA wA 0 yeq) (plA wA (oO 1 57) 0 rfl rfl (ybg yba (k:=3) rfl (by decide) (by decide))) (ptA wA 1 ycg) (plA wA (oO 3 59) 1 rfl rfl ycj) (cc2 wA (qO 2 58 rfl) (qO 4 60 rfl) (yah _) (fun w u v h1 h2=>ydv (by omega) w u v ((fun _ _ h=>h) _ _ h1) ((fun _ _ h=>h) _ _ h2))) (cc2 wA (qO 0 56 rfl) (qO 5 61 rfl) (yah _) (fun w u0 u1 h0 h1=>Gives.cast (ψ:=(ZN (lf))) ((fun w u v h1 h2=>ykc (by omega) (by omega) w u v ((ybf q4) _ _ h1) ((ybf q5) _ _ h2)) w u0 u1 h0 h1) (by rw [elf]))) (nwA wA yar),puA 7 wA (oO 6 62) yad ya9 yai⟩
 intro _ a4 _ (S4:Zt [_,_,_,_,_] [])
 rcases hl with ⟨hl,rfl⟩ | ⟨hl,hnz,eS,hs0,eρ,rfl⟩
 ·skip
  have hsg:lf.sign < 0:=by rw [zii hl]; decide
  refine wp_seq ?_
  refine wq [Fw (ZN (lf)) w,V (iV ((lf).sign)),kT] ur5 [.inl 2] S4 ?_ ?_
  ·exact jj3 (loA 4 wA yad yai) (cc1 wA (qO 0 63 rfl) (yab _) (fun w u h1=>yev (by omega) w u ((ybf q6) _ _ h1))) (ya8 wA (oO 1 64) (yaa _) (h:=hsg))
  intro B5 a5 W5 (S5:Zt [_,_,_,_,_] [_])
  refine wp_cond_true (S5.bool 0 65 rfl) ?_
  refine wq [.val zI,.put (.inl 4) (yhm),kF] [.inr 0,.inr 2] [.inl 2] S5 ?_ ?_
  ·exact jj3 (yde rfl wA rfl rfl) (seA 2 wA (oO 0 66) yad ya9 ya9) mC
  intro B6 a6 W6 (S6:Zt [_,_] [_])
  refine wp_ret (thenR ?_)
  exact ydi S6 rfl (ybb S6 1 4 rfl yad ya9) (yay S6 0 5 rfl)
 ·skip
  have hsg:0<=lf.sign:=yjs hl
  have q9:(digs sq.natAbs).length<=268435458:=by rw [← eS]; exact yka hnz q7
  refine wp_seq ?_
  refine wq [Fw (ZN (lf)) w,V (iV ((lf).sign)),kF] ur5 [.inl 2] S4 ?_ ?_
  ·exact jj3 (loA 4 wA yad yai) (cc1 wA (qO 0 63 rfl) (yab _) (fun w u h1=>yev (by omega) w u ((ybf q6) _ _ h1))) (ybc wA (oO 1 64) (yaa _) (h:=hsg))
  intro B5 a5 W5 (S5:Zt [_,_,_,_,_] [_])
  refine wp_cond_false (S5.bool 0 65 rfl) (wp_skip (thenN ?_))
  refine wq [Fw (ZN (lf)) w,V (Zv D0 K),Fw (ZN (lf*D0)) w,V (Part a5 3 2),V (Zv rd Kr),V (Part a5 2 6),V (Zv R KR),Fw (ZN (rd*R)) w,Fw (THREE (ZN (sq)) (ZN (rm (lf*D0) (rd*R))) (IS (.int .i64 0))) w,Fw (THREE (ZN (sq)) (ZN (rm (lf*D0) (rd*R))) (IS (.int .i64 0))) w,Fw (ZN (sq)) w,Fw (ZN (rm (lf*D0) (rd*R))) w,V (iV 0),.new (yhm),.new (yhm),.put (.inr 13) (.box 24 ((ZN (sq)) w.heap.size)),.put (.inr 14) (.box 24 ((ZN (rm (lf*D0) (rd*R))) w.heap.size)),V (iV 0)] [.inr 0,.inr 2,.inl 13,.inl 14] [] S5 ?_ ?_
  ·exact ⟨⟨⟨⟨⟨⟨⟨⟨⟨⟨jj8 (loA 4 wA yad yai) (loA 3 wA yad yan) (cc2 wA (qO 0 68 rfl) (qO 1 69 rfl) (yah _) (fun w u v h1 h2=>ydv (by omega) w u v ((ybf q6) _ _ h1) ((fun _ _ h=>h) _ _ h2))) (ptA wA 1 ycg) (plA wA (oO 3 71) 1 rfl rfl ycj) (ptA wA 0 yd7) (plA wA (oO 5 73) 0 rfl rfl (ybg yba (k:=4) rfl (by decide) (by decide))) (cc2 wA (qO 4 72 rfl) (qO 6 74 rfl) (yah _) (fun w u v h1 h2=>ydv (by omega) w u v ((fun _ _ h=>h) _ _ h1) ((fun _ _ h=>h) _ _ h2))),cc2 wA (qO 2 70 rfl) (qO 7 75 rfl) (ydc (yah _) (yah _) (yab _)) (fun w u v h1 h2=>Gives.cast (ψ:=(THREE (ZN (sq)) (ZN (rm (lf*D0) (rd*R))) (IS (.int .i64 0)))) (yhf hnz (by omega) (by omega) w u v ((ybf q7) _ _ h1) ((ybf q8) _ _ h2)) (by rw [eS]))⟩,mO 8 76⟩,e30 wA (oO 9 67)⟩,e31 wA (oO 9 67)⟩,e32 wA (oO 9 67)⟩,nwA wA yar⟩,nwA wA yar⟩,puA 13 wA (oO 10 77) yad ya9 yai⟩,puA 14 wA (oO 11 78) yad ya9 yai⟩,mO 12 79⟩
  intro B6 a6 W6 (S6:Zt [_,_,_,_] [])
  refine wq [Fw (ZN (sq)) w,Fw (TWO (ZN (ρ)) (IS (.int .i64 0))) w,Fw (TWO (ZN (ρ)) (IS (.int .i64 0))) w,Fw (ZN (ρ)) w,V (iV 0),.new (yhm),.put (.inr 5) (.box 24 ((ZN (ρ)) w.heap.size)),V (iV 0)] [.inr 0,.inr 1,.inl 5] [] S6 ?_ ?_
  ·repeat' refine And.intro ?_ ?_
   ·trivial
   ·exact loA 2 wA yad yai
   ·exact cc1 wA (qO 0 81 rfl) (ya5 (yah _) (yab _)) (fun w u h1=>ywe (by omega) hs0 eρ w u ((ybf q9) _ _ h1))
   ·exact mO 1 82
   ·exact e20 wA (oO 2 80)
   ·exact e21 wA (oO 2 80)
   ·exact nwA wA yar
   ·exact puA 5 wA (oO 3 83) yad ya9 yai
   ·exact mO 4 84
  intro _ a7 _ (S7:Zt [_,_,_] [])
  refine wq [Fw (ZN (ρ)) w,.put (.inl 4) (.box 24 ((ZN (ρ)) w.heap.size)),kT] ur2 [.inl 2] S7 ?_ ?_
  ·exact jj3 (loA 2 wA yad yai) (seA 1 wA (oO 0 85) yad ya9 yai) mC
  intro _ a8 _ (S8:Zt [_,_] [_])
  refine wp_ret ?_
  exact ydi S8 rfl (ybb S8 1 4 rfl yad yai) (yay S8 0 5 rfl)
abbrev ygx  : Rk:=.box 24 zI
theorem zg5 (w:World)(pa:Value)(nD nL nT K:Nat)(D:List Int)(L:List (List Int))(τ:List Int)(dn:Int)(hD:nD<=1048577)(hL:nL<=1048576)(hT:nT<=1048576)(hK:K<=16777216)(lD:D.length=nD)(lL:L.length=nL)(lT:τ.length=nT)(u:Value)(k Ks KB KN KR:Nat)(sh:List Int)(b N R:Int)(h:Hs w (SP (AP pa nD nL nT K D L τ dn) (Vv k sh Ks) (Zv b KB) (Zv N KN) (Zv R KR)) u)(hk:k < nL)(ls:sh.length=k)(hnT:nT=nL)(hnD:nD=nL+1)(r:Value)(rn rd T0 D1 cn cd:Int)(Kr:Nat)(hr:Hs w (PR (Zv rn Kr) (Zv rd Kr)) r)(hKB:KB<=134217728)(eT:τ.getD (nL-1-k) 0=T0)(eD:D.getD (nL-1-k+1) 0=D1)(ecn:T0*D1-b=cn)(ecd:dn*D1=cd)(ρ hi tn:Int)(hρ:(digs ρ.natAbs).length<=268435458)(hcd:cd≠0)(eH:fl (cn+ρ) cd=hi)(eL:fl (ρ-cn) cd=tn)(hre:∀ (w:World) (u r:Value),Hs w (SP (AP pa nD nL nT K D L τ dn) (Vv k sh Ks) (Zv b KB) (Zv N KN) (Zv R KR)) u->Hs w (PR (Zv rn Kr) (Zv rd Kr)) r->CG 134 #[u,r] w (TWO (ZN (ρ)) (IS (.bool true))))(psi:Nat->Pr)(hx:(hi < -tn/\psi=(THREE (IS (.agg #[.bool false,.slice none 0 0])) (IS (.agg #[.bool false,.slice none 0 0])) (IS (.bool false))))\/(-tn<=hi/\psi=(THREE (ZN (-tn)) (ZN (hi)) (IS (.bool true))))):
  CG 125 #[u,r] w psi:=by
 obtain ⟨_,_,_,_,_,ha,_,hbv,_,_⟩:=you h.now
 have hamd:=ymg ha
 have hpb:=ye7 hbv
 have hp1:(digs D1.natAbs).length<=K:=by rw [← eD]; exact yb2 hamd.1 _
 have hpT:(digs T0.natAbs).length<=K:=by rw [← eT]; exact yb2 hamd.2.2.1 _
 have q1:(digs (T0*D1).natAbs).length<=134217728:=by rw [zh3]; exact zhb (yaq hpT hp1) (by omega)
 have q2:(digs (cn).natAbs).length<=134217729:=by rw [← ecn]; exact yec q1 (zhb hpb hKB)
 have q3:(digs (cd).natAbs).length<=33554432:=by rw [← ecd]; rw [zh3]; exact zhb (yaq hamd.2.2.2 hp1) (by omega)
 have q4:(digs (cn+ρ).natAbs).length<=268435459:=yj7 (zhb q2 (by omega)) hρ
 have q5:(digs (ρ-cn).natAbs).length<=268435459:=yec hρ (zhb q2 (by omega))
 have q6:(digs (hi).natAbs).length<=268435460:=by rw [← eH]; exact yka hcd q4
 have q7:(digs (tn).natAbs).length<=268435460:=by rw [← eL]; exact yka hcd q5
 have q8:(digs (-tn).natAbs).length<=268435460:=by rw [Int.natAbs_neg]; exact q7
 refine yak (sl:=[(0,(SP (AP pa nD nL nT K D L τ dn) (Vv k sh Ks) (Zv b KB) (Zv N KN) (Zv R KR))),(1,(PR (Zv rn Kr) (Zv rd Kr)))]) Tryz.func125 rfl Tryz.ntmps125 (by simp) (yae rfl (h) (yae rfl (hr) yao)) ?_
 intro a0 S0
 refine wq [.new (.box 75 (SP (AP pa nD nL nT K D L τ dn) (Vv k sh Ks) (Zv b KB) (Zv N KN) (Zv R KR))),.new (.box 26 (PR (Zv rn Kr) (Zv rd Kr))),.new (ygx),.new (ygx),kF] [.inl 0,.inl 1,.inl 2,.inl 3] [] S0 ?_ ?_
 ·exact jj5 (bxA wA (oS 0 0) (yek yby)) (bxA wA (oS 1 1) (yfq (ybm yan yan))) (nwA wA yar) (nwA wA yar) mC
 intro _ a1 _ (S1:Zt [_,_,_,_] [])
 refine wq [V (SP (AP pa nD nL nT K D L τ dn) (Vv k sh Ks) (Zv b KB) (Zv N KN) (Zv R KR)),V (PR (Zv rn Kr) (Zv rd Kr)),Fw (TWO (ZN (ρ)) (IS (.bool true))) w,Fw (TWO (ZN (ρ)) (IS (.bool true))) w,Fw (ZN (ρ)) w,kT,.new (ygx),.put (.inr 6) (.box 24 ((ZN (ρ)) w.heap.size)),kT] [.inr 0,.inr 2,.inr 3,.inl 6] [.inl 8] S1 ?_ ?_
 ·exact ⟨jj8 (loA 0 wA ybd yby) (loA 1 wA yaj (ybm yan yan)) (ch2 wA (qO 0 18 rfl) (qO 1 19 rfl) (ya5 (yah _) (yab _)) (fun w u r h1 h2=>hre w u r h1 h2)) (mO 2 20) (e20 wA (oO 3 17)) (e21 wA (oO 3 17)) (nwA wA yar) (puA 6 wA (oO 4 21) yad ya9 yai),mO 5 22⟩
 intro _ a2 _ (S2:Zt [_,_,_,_] [_])
 refine wp_seq ?_
 refine wq [kT,kF] ur4 [.inl 1] S2 ?_ ?_
 ·exact jj2 (mS 0 8) (ycc wA (oO 0 23))
 intro _ a3 _ (S3:Zt [_,_,_,_] [_])
 refine wp_cond_false (S3.bool 0 24 rfl) (wp_skip (thenN ?_))
 refine wq [V (SP (AP pa nD nL nT K D L τ dn) (Vv k sh Ks) (Zv b KB) (Zv N KN) (Zv R KR)),Fw (PRF (ZN (cn)) (ZN (cd))) w,.new (.box 26 zR),.put (.inr 2) (.box 26 ((PRF (ZN (cn)) (ZN (cd))) w.heap.size))] [.inr 0,.inr 1,.inr 2,.inr 3,.inl 2] [] S3 ?_ ?_
 ·exact jj4 (loA 0 wA ybd yby) (ch1 wA (qO 0 27 rfl) (yfc (yah _) (yah _)) (fun w u0 h0=>Gives.cast (za7 w pa nD nL nT K D L τ dn hD hL hT hK lD lL lT u0 _ _ _ _ _ _ _ _ _ h0 hk ls hnT hnD T0 D1 eT eD hKB) (by rw [ecn,ecd]))) (nwA wA ya3) (puA 2 wA (oO 1 28) yaj ybk (ybm yai yai))
 intro _ a4 _ (S4:Zt [_,_,_,_,_] [])
 refine wq [V (Part a4 9 0),Fw (ZN (cn)) w,Fw (ZN (ρ)) w,Fw (ZN (cn+ρ)) w,V (Part a4 9 2),Fw (ZN (cd)) w,Fw (THREE (ZN (hi)) (ZN (rm (cn+ρ) cd)) (IS (.int .i64 0))) w,Fw (THREE (ZN (hi)) (ZN (rm (cn+ρ) cd)) (IS (.int .i64 0))) w,Fw (ZN (hi)) w,Fw (ZN (rm (cn+ρ) cd)) w,V (iV 0),.new (ygx),.new (ygx),.put (.inr 11) (.box 24 ((ZN (hi)) w.heap.size)),.put (.inr 12) (.box 24 ((ZN (rm (cn+ρ) cd)) w.heap.size)),V (iV 0)] [.inr 0,.inr 1,.inr 2,.inr 3,.inr 4,.inl 11,.inl 12] [] S4 ?_ ?_
 ·exact ⟨⟨⟨⟨⟨⟨⟨⟨jj8 (ptZ wA 4 yca) (plA wA (oO 0 30) 4 rfl rfl ydo) (loA 3 wA yad yai) (cc2 wA (qO 1 31 rfl) (qO 2 32 rfl) (yah _) (fun w u v h1 h2=>ykb (by omega) (by omega) w u v ((ybf q2) _ _ h1) ((ybf hρ) _ _ h2))) (ptA wA 4 ycg) (plA wA (oO 4 34) 4 rfl rfl ycj) (cc2 wA (qO 3 33 rfl) (qO 5 35 rfl) (ydc (yah _) (yah _) (yab _)) (fun w u v h1 h2=>Gives.cast (ψ:=(THREE (ZN (hi)) (ZN (rm (cn+ρ) cd)) (IS (.int .i64 0)))) (yhf hcd (by omega) (by omega) w u v ((ybf q4) _ _ h1) ((ybf q3) _ _ h2)) (by rw [eH]))) (mO 6 36),e30 wA (oO 7 29)⟩,e31 wA (oO 7 29)⟩,e32 wA (oO 7 29)⟩,nwA wA yar⟩,nwA wA yar⟩,puA 11 wA (oO 8 37) yad ya9 yai⟩,puA 12 wA (oO 9 38) yad ya9 yai⟩,mO 10 39⟩
 intro _ a5 _ (S5:Zt [_,_,_,_,_,_,_] [])
 refine wq [Fw (ZN (ρ)) w,V (Part a5 9 0),Fw (ZN (cn)) w,Fw (ZN (ρ-cn)) w,V (Part a5 9 2),Fw (ZN (cd)) w,Fw (THREE (ZN (tn)) (ZN (rm (ρ-cn) cd)) (IS (.int .i64 0))) w,Fw (THREE (ZN (tn)) (ZN (rm (ρ-cn) cd)) (IS (.int .i64 0))) w,Fw (ZN (tn)) w,Fw (ZN (rm (ρ-cn) cd)) w,V (iV 0),.new (ygx),.new (ygx),.put (.inr 11) (.box 24 ((ZN (tn)) w.heap.size)),.put (.inr 12) (.box 24 ((ZN (rm (ρ-cn) cd)) w.heap.size)),V (iV 0)] [.inr 0,.inr 1,.inr 2,.inr 5,.inl 11,.inl 12] [] S5 ?_ ?_
 ·exact ⟨⟨⟨⟨⟨⟨⟨⟨jj8 (loA 3 wA yad yai) (ptZ wA 4 yca) (plA wA (oO 1 42) 4 rfl rfl ydo) (cc2 wA (qO 0 41 rfl) (qO 2 43 rfl) (yah _) (fun w u v h1 h2=>ykc (by omega) (by omega) w u v ((ybf hρ) _ _ h1) ((ybf q2) _ _ h2))) (ptA wA 4 ycg) (plA wA (oO 4 45) 4 rfl rfl ycj) (cc2 wA (qO 3 44 rfl) (qO 5 46 rfl) (ydc (yah _) (yah _) (yab _)) (fun w u v h1 h2=>Gives.cast (ψ:=(THREE (ZN (tn)) (ZN (rm (ρ-cn) cd)) (IS (.int .i64 0)))) (yhf hcd (by omega) (by omega) w u v ((ybf q5) _ _ h1) ((ybf q3) _ _ h2)) (by rw [eL]))) (mO 6 47),e30 wA (oO 7 40)⟩,e31 wA (oO 7 40)⟩,e32 wA (oO 7 40)⟩,nwA wA yar⟩,nwA wA yar⟩,puA 11 wA (oO 8 48) yad ya9 yai⟩,puA 12 wA (oO 9 49) yad ya9 yai⟩,mO 10 50⟩
 intro _ a6 _ (S6:Zt [_,_,_,_,_,_] [])
 refine wq [Fw (ZN (tn)) w,Fw (ZN (-tn)) w,.new (ygx),.put (.inr 2) (.box 24 ((ZN (-tn)) w.heap.size))] [.inr 0,.inr 1,.inr 2,.inr 3,.inl 2] [] S6 ?_ ?_
 ·exact jj4 (loA 4 wA yad yai) (cc1 wA (qO 0 51 rfl) (yah _) (fun w u h1=>zc4 (by omega) w u ((ybf q7) _ _ h1))) (nwA wA yar) (puA 2 wA (oO 1 52) yad ya9 yai)
 intro _ a7 _ (S7:Zt [_,_,_,_,_] [])
 rcases hx with ⟨hx,rfl⟩ | ⟨hx,rfl⟩
 ·skip
  have hsg:0 < (-tn-hi).sign:=by rw [zh7 (by omega)]; decide
  refine wp_seq ?_
  refine wq [Fw (ZN (-tn)) w,Fw (ZN (hi)) w,V (iV (((-tn)-hi).sign)),kT] ur5 [.inl 3] S7 ?_ ?_
  ·exact jj4 (loA 4 wA yad yai) (loA 3 wA yad yai) (cc2 wA (qO 0 53 rfl) (qO 1 54 rfl) (yab _) (fun w u v h1 h2=>yhh (by omega) (by omega) w u v ((ybf q8) _ _ h1) ((ybf q6) _ _ h2))) (yd3 wA (oO 2 55) (yaa _) (h:=hsg))
  intro B8 a8 W8 (S8:Zt [_,_,_,_,_] [_])
  refine wp_cond_true (S8.bool 0 56 rfl) ?_
  refine wq [.val zI,.val zI,.put (.inl 4) (ygx),.put (.inl 5) (ygx),kF] ur3 [.inl 4] S8 ?_ ?_
  ·exact jj5 (yde rfl wA rfl rfl) (yde rfl wA rfl rfl) (seA 1 wA (oO 0 57) yad ya9 ya9) (seA 2 wA (oO 1 58) yad ya9 ya9) mC
  intro B9 a9 W9 (S9:Zt [_,_,_] [_])
  refine wp_ret (thenR ?_)
  exact ymo S9 rfl (ybb S9 1 4 rfl yad ya9) (ybb S9 2 5 rfl yad ya9) (yay S9 0 6 rfl)
 ·skip
  have hsg:(-tn-hi).sign<=0:=yel (by omega)
  refine wp_seq ?_
  refine wq [Fw (ZN (-tn)) w,Fw (ZN (hi)) w,V (iV (((-tn)-hi).sign)),kF] ur5 [.inl 3] S7 ?_ ?_
  ·exact jj4 (loA 4 wA yad yai) (loA 3 wA yad yai) (cc2 wA (qO 0 53 rfl) (qO 1 54 rfl) (yab _) (fun w u v h1 h2=>yhh (by omega) (by omega) w u v ((ybf q8) _ _ h1) ((ybf q6) _ _ h2))) (ybv wA (oO 2 55) (yaa _) (h:=hsg))
  intro B8 a8 W8 (S8:Zt [_,_,_,_,_] [_])
  refine wp_cond_false (S8.bool 0 56 rfl) (wp_skip (thenN ?_))
  refine wq [Fw (ZN (-tn)) w,Fw (ZN (hi)) w,.put (.inl 4) (.box 24 ((ZN (-tn)) w.heap.size)),.put (.inl 5) (.box 24 ((ZN (hi)) w.heap.size)),kT] ur3 [.inl 4] S8 ?_ ?_
  ·exact jj5 (loA 4 wA yad yai) (loA 3 wA yad yai) (seA 1 wA (oO 0 59) yad ya9 yai) (seA 2 wA (oO 1 60) yad ya9 yai) mC
  intro B9 a9 W9 (S9:Zt [_,_,_] [_])
  refine wp_ret ?_
  exact ymo S9 rfl (ybb S9 1 4 rfl yad yai) (ybb S9 2 5 rfl yad yai) (yay S9 0 6 rfl)
end Go.Proofs.YtdnindaohpdblaaGreat
