import Derived.Test.YtdnindaohpdblaaGreatTzG
import Derived.Test.YtdnindaohpdblaaGreatFmC
set_option linter.all false
namespace Go.Proofs.YtdnindaohpdblaaGreat
open Go Go.RowKit Nt
set_option maxRecDepth 20000
set_option maxHeartbeats 16000000
theorem ywa:∀ (i:Nat) ψ,([IS (.int .i64 3),IS (.int .i64 5)]:List (Nat->Pr))[i]? = some ψ->Fresh ψ:=fun i ψ h=>by
 match i,h with
 | 0,h=>simp at h; subst h; exact yab _
 | 1,h=>simp at h; subst h; exact yab _
abbrev CL35:Nat->Pr:=LF 1 2 [IS (.int .i64 3),IS (.int .i64 5)]
theorem yq8:Fresh CL35:=yij (by decide) ywa
theorem yro (w:World):
  CG 9 #[] w (IS (.bool true)):=by
 refine yak (sl:=[]) Tryz.func9 rfl Tryz.ntmps9 (by simp) yao ?_
 intro a0 S0
 refine wq [kF] [] [] S0 ?_ ?_
 ·exact jj1 mC
 intro _ a1 _ (S1:Zt [] [])
 refine wq [V (TnT w.heap.size),Fw (THREE CL35 (IS (.bool true)) (IS (.int .i64 0))) w,Fw (THREE CL35 (IS (.bool true)) (IS (.int .i64 0))) w,V (CL35 w.heap.size),kT,V (iV 0),V (CL35 w.heap.size),kT,V (iV 0)] [] [.inl 6,.inl 7,.inl 8] S1 ?_ ?_
 ·exact ⟨jj8 (yex rfl wA rfl  ywc rfl (fun args w=>by go_simp) (fun w=>zbi w)) (ch2 wA ((qO 0 5 rfl).imp ze0) (yaa _) (ydc yq8 (yab _) (yab _)) (fun w u v h1 h2=>by obtain rfl:v=_:=h2.now; exact yos w u h1)) (mO 1 6) (e30 wA (oO 2 4)) (e31 wA (oO 2 4)) (e32 wA (oO 2 4)) (mO 3 7) (mO 4 8),mO 5 9⟩
 intro _ a2 _ (S2:Zt [] [_,_,_])
 refine wq [V (iV 0),kT,kT,kT,kT,kT,V (CL35 w.heap.size),V (iV (2:Nat)),kT,kT,kT,V (CL35 w.heap.size),V (AtE 1 (iV 3)),V (iV 3),kT,kT,kT,V (CL35 w.heap.size),V (AtE 1 (iV 5)),V (iV 5),kT,kT,kT] [] [.inl 22] S2 ?_ ?_
 ·exact ⟨⟨⟨⟨⟨⟨⟨⟨⟨⟨⟨⟨⟨⟨⟨jj8 (mS 2 3) (yb0 wA (oO 0 10) (yaa _) (h:=rfl)) (mO 1 11) (mW (wI 2 12) (oS 1 2)) (pT wA (oO 2 12) (oO 3 13)) (mO 4 14) (mW (wI 5 15) (oS 0 1)) (yjc rfl (wI 5 15) rfl (oO 6 16) ymv Tryz.underlying65 rfl),ycl (wI 5 15) (oO 7 17) (yaa _) (h:=rfl)⟩,pT wA (oO 5 15) (oO 8 18)⟩,mO 9 19⟩,mW (wI 10 20) (oS 0 1)⟩,axA (wI 10 20) yyb ((oO 11 21).imp zad) (yaa _) rfl rfl⟩,alA (wI 10 20) yyd (ymi rfl) (oO 12 22)⟩,ycl (wI 10 20) (oO 13 23) (yaa _) (h:=rfl)⟩,pT wA (oO 10 20) (oO 14 24)⟩,mO 15 25⟩,mW (wI 16 26) (oS 0 1)⟩,axA (wI 16 26) yyb ((oO 17 27).imp zad) (yaa _) rfl rfl⟩,alA (wI 16 26) yyd (ymi rfl) (oO 18 28)⟩,ycl (wI 16 26) (oO 19 29) (yaa _) (h:=rfl)⟩,pT wA (oO 16 26) (oO 20 30)⟩,mO 21 31⟩
 intro _ a3 _ (S3:Zt [] [_])
 refine wp_ret ?_
 exact yav S3 rfl (yay S3 0 0 rfl)
theorem yph {A N:Int}{D M k1 k2 k3 k4:Nat}(hD:D≠0)(hM:M≠0)(b1:k1<=8388608)(b2:k2<=8388608)(b3:k3<=8388608)(b4:k4<=8388608):∀ w u v,Rv A (D:Int) k1 k2 u w->Rv N (M:Int) k3 k4 v w->CG 24 #[u,v] w (IS (.int .i64 (A*(M:Int)-N*(D:Int)).sign)):=by
 rintro w u v ⟨x0,x1,y0,y1,rfl,⟨s,p,n,c,xs,ea,h,rfl,hn⟩,⟨t,q,m,d,ys,eb,h',eD,hm⟩⟩ ⟨z0,z1,u0,u1,rfl,⟨s',p',n',c',xs',ea',h2,rfl,hn'⟩,⟨t',q',m',d',ys',eb',h2',eM,hm'⟩⟩
 simp at ea eb ea' eb'
 obtain ⟨rfl,rfl⟩:=ea
 obtain ⟨rfl,rfl⟩:=eb
 obtain ⟨rfl,rfl⟩:=ea'
 obtain ⟨rfl,rfl⟩:=eb'
 obtain ⟨rfl,rfl⟩:=ygk eD hD
 obtain ⟨rfl,rfl⟩:=ygk eM hM
 refine (za4 w s p n c xs q m d ys s' p' n' c' xs' q' m' d' ys' h h' h2 h2' hD hM (by omega) (by omega) (by omega) (by omega)).mono ?_
 rintro e w' ⟨rfl,hb⟩
 exact ⟨_,rfl,hb,rfl⟩
end Go.Proofs.YtdnindaohpdblaaGreat
