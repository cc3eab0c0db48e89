import Derived.Test.YtdnindaohpdblaaGreatGsB
import Derived.Test.YtdnindaohpdblaaGreatRsK
set_option linter.all false
namespace Go.Proofs.YtdnindaohpdblaaGreat
open Go Go.RowKit Nt
set_option maxRecDepth 20000
set_option maxHeartbeats 16000000
theorem yf8 (p:Nat->Bool):∀ n,(∀ j,j < n->p j=true)\/∃ i,i < n/\p i=false/\∀ j,j < i->p j=true
 | 0=>Or.inl (fun j h=>by omega)
 | n+1=>by
  rcases yf8 p n with h | ⟨i,h1,h2,h3⟩
  ·cases e:p n with
   | true=>exact Or.inl (fun j hj=>by rcases zi0 j n with h' | h'; exact h j h'; rw [show j=n by omega]; exact e)
   | false=>exact Or.inr ⟨n,by omega,e,h⟩
  ·exact Or.inr ⟨i,by omega,h2,h3⟩
structure Good (D:List Int) (L:List (List Int)):Prop where
 some:L.length≠0
 len:D.length=L.length+1
 one:D.getD 0 0=1
 row:∀ i,i < L.length->(L.getD i []).length=i
 pos:∀ i,i < L.length->0 < D.getD (i+1) 0
inductive Bad (D:List Int) (L:List (List Int)):Prop
 | none:L.length=0->Bad D L
 | len:L.length≠0->D.length≠L.length+1->Bad D L
 | one:L.length≠0->D.length=L.length+1->D.getD 0 0≠1->Bad D L
 | row (i0:Nat):L.length≠0->D.length=L.length+1->D.getD 0 0=1->i0 < L.length->(∀ j,j < i0->(L.getD j []).length=j/\0 < D.getD (j+1) 0)->((L.getD i0 []).length≠i0\/((L.getD i0 []).length=i0/\D.getD (i0+1) 0<=0))->Bad D L
theorem yz5 (D:List Int)(L:List (List Int)):Good D L\/Bad D L:=by
 by_cases h1:L.length=0
 ·exact Or.inr (.none h1)
 by_cases h2:D.length=L.length+1
 ·by_cases h3:D.getD 0 0=1
  ·rcases yf8 (fun j=>decide ((L.getD j []).length=j/\0 < D.getD (j+1) 0)) L.length with h | ⟨i,hi,h4,h5⟩
   ·exact Or.inl ⟨h1,h2,h3,fun i hi=>(of_decide_eq_true (h i hi)).1,fun i hi=>(of_decide_eq_true (h i hi)).2⟩
   ·refine Or.inr (.row i h1 h2 h3 hi (fun j hj=>of_decide_eq_true (h5 j hj)) ?_)
    have:=of_decide_eq_false h4
    by_cases h6:(L.getD i []).length=i
    ·exact Or.inr ⟨h6,by omega⟩
    ·exact Or.inl h6
  ·exact Or.inr (.one h1 h2 h3)
 ·exact Or.inr (.len h1 h2)
theorem Good.d {D:List Int}{L:List (List Int)}(h:Good D L)(i:Nat)(hi:i < D.length):0 < D.getD i 0:=by
 cases i with
 | zero=>rw [h.one]; decide
 | succ i=>exact h.pos i (by have:=h.len; omega)
theorem ysx {D:List Int}{L:List (List Int)}{b:Bool}(g:(Good D L/\b=true)\/(Bad D L/\b=false)):(L.length=0/\b=false)\/(L.length≠0/\D.length≠L.length+1/\b=false)\/(L.length≠0/\D.length=L.length+1/\D.getD 0 0≠1/\b=false)\/∃ i0,L.length≠0/\D.length=L.length+1/\D.getD 0 0=1/\i0<=L.length/\(∀ j,j < i0->(L.getD j []).length=j/\0 < D.getD (j+1) 0)/\((i0=L.length/\b=true)\/(i0 < L.length/\b=false/\((L.getD i0 []).length≠i0\/((L.getD i0 []).length=i0/\D.getD (i0+1) 0<=0)))):=by
 rcases g with ⟨g,hb⟩ | ⟨g,hb⟩
 ·exact Or.inr (Or.inr (Or.inr ⟨L.length,g.some,g.len,g.one,zha _,fun j hj=>⟨g.row j hj,g.pos j hj⟩,Or.inl ⟨rfl,hb⟩⟩))
 ·rcases g with g1 | ⟨g1,g2⟩ | ⟨g1,g2,g3⟩ | ⟨i0,g1,g2,g3,g4,g5,g6⟩
  ·exact Or.inl ⟨g1,hb⟩
  ·exact Or.inr (Or.inl ⟨g1,g2,hb⟩)
  ·exact Or.inr (Or.inr (Or.inl ⟨g1,g2,g3,hb⟩))
  ·exact Or.inr (Or.inr (Or.inr ⟨i0,g1,g2,g3,by omega,g5,Or.inr ⟨g4,hb,g6⟩⟩))
theorem yd9 {z:Int}(h:0 < z):z.sign=1:=zh7 h
theorem yel {z:Int}(h:z<=0):z.sign<=0:=by
 rcases Int.lt_or_le z 0 with h1 | h1
 ·rw [zii h1]; decide
 ·rw [show z=0 by omega]; decide
theorem sgn0 {z:Int}(h:z=0):z.sign=0:=by rw [h]; rfl
theorem yyv {z:Int}(h:z≠0):z.sign≠0:=fun e=>h (zkb.1 e)
abbrev yhl (K:Nat)(L:List (List Int))(k0:Nat):Pr:=Vv ((L.getD k0 []).length) (L.getD k0 []) K
theorem zdm (w:World)(u:Value)(nD nL K:Nat)(D:List Int)(L:List (List Int))(h:Hs w (SF [Vv nD D K,Mv nL L K]) u)(hD:nD<=1048576)(hL:nL<=1048576)(hK:K<=1048576)(lD:D.length=nD)(lL:L.length=nL)(b:Bool)(g:(Good D L/\b=true)\/(Bad D L/\b=false)):
  CG 77 #[u] w (IS (.bool b)):=by
 refine yak (sl:=[(0,(SF [(Vv nD D K),(Mv nL L K)]))]) Tryz.func77 rfl Tryz.ntmps77 (by simp) (yae rfl (h) yao) ?_
 intro a0 S0
 refine wq [.new (.box 38 (SF [(Vv nD D K),(Mv nL L K)])),kF] [.inl 0] [] S0 ?_ ?_
 ·exact jj2 (bxA wA (oS 0 0) (yf5 yei)) mC
 intro _ a1 _ (S1:Zt [_] [])
 rcases ysx g with ⟨g1,rfl⟩ | ⟨g1,g2,rfl⟩ | ⟨g1,g2,g3,rfl⟩ | ⟨i0,g1,g2,g3,g4,g5,g6⟩
 ·skip
  refine wp_seq ?_
  refine wq [V (Part a1 1 1),V (Mv nL L K),V (iV (nL:Nat)),kT,kT,.off,.off,.off,.off,.off,.off,.off,.off,kT,kT,.off,.off,.off,.off,.off,.off,.off,kT] [.inr 0] [.inl 22] S1 ?_ ?_
  ·exact ⟨⟨⟨⟨⟨⟨⟨⟨⟨⟨⟨⟨⟨⟨⟨jj8 (ptA wA 0 yaw) (plA wA (oO 0 5) 0 rfl rfl (ploadS rfl yb1)) (lnA wA (oO 1 6) Tryz.underlying36) (ycl wA (oO 2 7) (yaa _)) (mO 3 8) (oF 4 9) (oF 4 9) (oF 4 9),oF 4 9⟩,oF 4 9⟩,oF 4 9⟩,oF 4 9⟩,oF 4 9⟩,pT wA (oO 4 9) (yaa _)⟩,mO 13 18⟩,oF 14 19⟩,oF 14 19⟩,oF 14 19⟩,oF 14 19⟩,oF 14 19⟩,oF 14 19⟩,oF 14 19⟩,pT wA (oO 14 19) (yaa _)⟩
  intro B2 a2 W2 (S2:Zt [_] [_])
  refine wp_cond_true (S2.bool 0 27 rfl) ?_
  refine wq [kF] [.inr 0] [.inl 0] S2 ?_ ?_
  ·exact jj1 mC
  intro B3 a3 W3 (S3:Zt [_] [_])
  refine wp_ret (thenR ?_)
  exact yav S3 rfl (yay S3 0 2 rfl)
 ·skip
  refine wp_seq ?_
  refine wq [V (Part a1 1 1),V (Mv nL L K),V (iV (nL:Nat)),kF,kF,V (Part a1 1 0),V (Vv nD D K),V (iV (nD:Nat)),V (Part a1 1 1),V (Mv nL L K),V (iV (nL:Nat)),V (iV ((nL+1:Nat):Int)),kT,kT,kT,.off,.off,.off,.off,.off,.off,.off,kT] [.inr 0] [.inl 22] S1 ?_ ?_
  ·exact ⟨⟨⟨⟨⟨⟨⟨⟨⟨⟨⟨⟨⟨⟨⟨jj8 (ptA wA 0 yaw) (plA wA (oO 0 5) 0 rfl rfl (ploadS rfl yb1)) (lnA wA (oO 1 6) Tryz.underlying36) (ycd wA (oO 2 7) (yaa _)) (mO 3 8) (ptZ (wI 4 9) 0 yb8) (plA (wI 4 9) (oO 5 10) 0 rfl rfl (ploadS rfl yb9)) (lnA (wI 4 9) (oO 6 11) Tryz.underlying35),ptA (wI 4 9) 0 yaw⟩,plA (wI 4 9) (oO 8 13) 0 rfl rfl (ploadS rfl yb1)⟩,lnA (wI 4 9) (oO 9 14) Tryz.underlying36⟩,ya7 (wI 4 9) (oO 10 15) (yaa _)⟩,ybz (wI 4 9) (oO 7 12) (oO 11 16)⟩,pF wA (oO 4 9) (oO 12 17)⟩,mO 13 18⟩,oF 14 19⟩,oF 14 19⟩,oF 14 19⟩,oF 14 19⟩,oF 14 19⟩,oF 14 19⟩,oF 14 19⟩,pT wA (oO 14 19) (yaa _)⟩
  intro B2 a2 W2 (S2:Zt [_] [_])
  refine wp_cond_true (S2.bool 0 27 rfl) ?_
  refine wq [kF] [.inr 0] [.inl 0] S2 ?_ ?_
  ·exact jj1 mC
  intro B3 a3 W3 (S3:Zt [_] [_])
  refine wp_ret (thenR ?_)
  exact yav S3 rfl (yay S3 0 2 rfl)
 ·skip
  have hone:((D.getD 0 0)-(1)).sign≠0:=yyv (by omega)
  refine wp_seq ?_
  refine wq [V (Part a1 1 1),V (Mv nL L K),V (iV (nL:Nat)),kF,kF,V (Part a1 1 0),V (Vv nD D K),V (iV (nD:Nat)),V (Part a1 1 1),V (Mv nL L K),V (iV (nL:Nat)),V (iV ((nL+1:Nat):Int)),kF,kF,kF,V (Part a1 1 0),V (Vv nD D K),V (AtE 2 (Zv (D.getD 0 0) K)),V (Zv (D.getD 0 0) K),Fw (ZN (1)) w,V (iV (((D.getD 0 0)-1).sign)),kT,kT] [.inr 0] [.inl 22] S1 ?_ ?_
  ·exact ⟨⟨⟨⟨⟨⟨⟨⟨⟨⟨⟨⟨⟨⟨⟨jj8 (ptA wA 0 yaw) (plA wA (oO 0 5) 0 rfl rfl (ploadS rfl yb1)) (lnA wA (oO 1 6) Tryz.underlying36) (ycd wA (oO 2 7) (yaa _)) (mO 3 8) (ptZ (wI 4 9) 0 yb8) (plA (wI 4 9) (oO 5 10) 0 rfl rfl (ploadS rfl yb9)) (lnA (wI 4 9) (oO 6 11) Tryz.underlying35),ptA (wI 4 9) 0 yaw⟩,plA (wI 4 9) (oO 8 13) 0 rfl rfl (ploadS rfl yb1)⟩,lnA (wI 4 9) (oO 9 14) Tryz.underlying36⟩,ya7 (wI 4 9) (oO 10 15) (yaa _)⟩,ybn (wI 4 9) (oO 7 12) (oO 11 16)⟩,pF wA (oO 4 9) (oO 12 17)⟩,mO 13 18⟩,ptZ (wI 14 19) 0 yb8⟩,plA (wI 14 19) (oO 15 20) 0 rfl rfl (ploadS rfl yb9)⟩,axA (wI 14 19) yb5 (oO 16 21) (yaa _) (yej (k:=0) (by omega)) rfl⟩,alC (wI 14 19) yba yan (oO 17 22)⟩,cc1 (wI 14 19) (yaa _) (yah _) (yjz (1) (by omega) (by omega))⟩,cc2 (wI 14 19) (qO 18 23 rfl) (qO 19 24 rfl) (yab _) (fun w u v h1 h2=>yhh (by omega) (by omega) w u v ((fun _ _ h=>h) _ _ h1) ((ybf yf0) _ _ h2))⟩,ybz (wI 14 19) (oO 20 25) (yaa _) (h:=hone)⟩,pF wA (oO 14 19) (oO 21 26)⟩
  intro B2 a2 W2 (S2:Zt [_] [_])
  refine wp_cond_true (S2.bool 0 27 rfl) ?_
  refine wq [kF] [.inr 0] [.inl 0] S2 ?_ ?_
  ·exact jj1 mC
  intro B3 a3 W3 (S3:Zt [_] [_])
  refine wp_ret (thenR ?_)
  exact yav S3 rfl (yay S3 0 2 rfl)
 ·skip
  have hone:((D.getD 0 0)-(1)).sign=0:=sgn0 (by omega)
  refine wp_seq ?_
  refine wq [V (Part a1 1 1),V (Mv nL L K),V (iV (nL:Nat)),kF,kF,V (Part a1 1 0),V (Vv nD D K),V (iV (nD:Nat)),V (Part a1 1 1),V (Mv nL L K),V (iV (nL:Nat)),V (iV ((nL+1:Nat):Int)),kF,kF,kF,V (Part a1 1 0),V (Vv nD D K),V (AtE 2 (Zv (D.getD 0 0) K)),V (Zv (D.getD 0 0) K),Fw (ZN (1)) w,V (iV (((D.getD 0 0)-1).sign)),kF,kF] [.inr 0] [.inl 22] S1 ?_ ?_
  ·exact ⟨⟨⟨⟨⟨⟨⟨⟨⟨⟨⟨⟨⟨⟨⟨jj8 (ptA wA 0 yaw) (plA wA (oO 0 5) 0 rfl rfl (ploadS rfl yb1)) (lnA wA (oO 1 6) Tryz.underlying36) (ycd wA (oO 2 7) (yaa _)) (mO 3 8) (ptZ (wI 4 9) 0 yb8) (plA (wI 4 9) (oO 5 10) 0 rfl rfl (ploadS rfl yb9)) (lnA (wI 4 9) (oO 6 11) Tryz.underlying35),ptA (wI 4 9) 0 yaw⟩,plA (wI 4 9) (oO 8 13) 0 rfl rfl (ploadS rfl yb1)⟩,lnA (wI 4 9) (oO 9 14) Tryz.underlying36⟩,ya7 (wI 4 9) (oO 10 15) (yaa _)⟩,ybn (wI 4 9) (oO 7 12) (oO 11 16)⟩,pF wA (oO 4 9) (oO 12 17)⟩,mO 13 18⟩,ptZ (wI 14 19) 0 yb8⟩,plA (wI 14 19) (oO 15 20) 0 rfl rfl (ploadS rfl yb9)⟩,axA (wI 14 19) yb5 (oO 16 21) (yaa _) (yej (k:=0) (by omega)) rfl⟩,alC (wI 14 19) yba yan (oO 17 22)⟩,cc1 (wI 14 19) (yaa _) (yah _) (yjz (1) (by omega) (by omega))⟩,cc2 (wI 14 19) (qO 18 23 rfl) (qO 19 24 rfl) (yab _) (fun w u v h1 h2=>yhh (by omega) (by omega) w u v ((fun _ _ h=>h) _ _ h1) ((ybf yf0) _ _ h2))⟩,ybn (wI 14 19) (oO 20 25) (yaa _) (h:=hone)⟩,pF wA (oO 14 19) (oO 21 26)⟩
  intro B2 a2 W2 (S2:Zt [_] [_])
  refine wp_cond_false (S2.bool 0 27 rfl) (wp_skip (thenN (wp_seq ?_)))
  refine wq [V (Part a2 1 1),V (Mv nL L K),V (iV (nL:Nat)),V (iV 0)] [.inr 0] [.inl 1,.inl 2,.inl 3] S2 ?_ ?_
  ·exact jj4 (ptA wA 0 yaw) (plA wA (oO 0 28) 0 rfl rfl (ploadS rfl yb1)) (lnA wA (oO 1 29) Tryz.underlying36) mC
  intro B3 a3 W3 (S3:Zt [_] [_,_,_])
  refine wp_block ?_
  refine ybi (fun (k0:Nat) a W=>(k0<=i0)/\∃ Bq,Sta w 51 [(1,(.box 38 (SF [(Vv nD D K),(Mv nL L K)])))] [(29,Mv nL L K),(30,iV (nL:Nat)),(31,iV (k0:Nat))] Bq a W) (fun (k0:Nat)=>nL-k0) ?_ 0 ⟨zhs _,B3,S3.sub [0] [0,1,2]⟩
  rintro k0 a4 _ ⟨hcond,_,S4⟩
  by_cases hlt:k0 < i0
  ·have hr:=(g5 k0 hlt).1
   have hp:=yd9 (g5 k0 hlt).2
   refine wq [kT] [.inr 0] (.inl 0 :: ur3) S4 ?_ ?_
   ·exact jj1 (ya8 wA (oS 2 31) (oS 1 30))
   intro B5 a5 W5 (S5:Zt [_] [_,_,_,_])
   refine wp_seq (wp_cond_true (S5.bool 0 32 rfl) (wp_skip (thenN (wp_seq (wp_block ?_)))))
   refine wq [V (iV (k0:Nat)),V (AtE 1 (yhl K L k0)),V (yhl K L k0),V (iV (k0:Nat)),V (yhl K L k0)] [.inr 0] [.inl 3,.inl 4,.inr 1,.inr 2,.inr 3] S5 ?_ ?_
   ·exact jj5 (mS 3 31) (axA wA ygn (oS 1 29) (oS 3 31) (yrs (by omega)) rfl) (alA wA ycf yez (oO 1 34)) (mO 0 33) (mO 2 35)
   intro B6 a6 W6 (S6:Zt [_] [_,_,_,_,_])
   refine wq [V (yhl K L k0),V (iV ((L.getD k0 []).length:Nat)),V (iV (k0:Nat)),kF,kF,V (Part a6 1 0),V (Vv nD D K),V (iV (k0:Nat)),V (iV ((k0+1:Nat):Int)),V (AtE 2 (Zv (D.getD (k0+1) 0) K)),V (Zv (D.getD (k0+1) 0) K),V (iV ((D.getD (k0+1) 0).sign)),kF,kF] [.inr 0] [.inl 13,.inr 2,.inr 3,.inr 4] S6 ?_ ?_
   ·exact ⟨⟨⟨⟨⟨⟨jj8 (mS 1 4) (lnA wA (oO 0 36) Tryz.underlying35) (mS 0 3) (ybn wA (oO 1 37) (oO 2 38)) (mO 3 39) (ptZ (wI 4 40) 0 yb8) (plA (wI 4 40) (oO 5 41) 0 rfl rfl (ploadS rfl yb9)) (mW (wI 4 40) (oS 0 3)),ya7 (wI 4 40) (oO 7 43) (yaa _)⟩,axA (wI 4 40) yb5 (oO 6 42) (oO 8 44) (yej (by omega)) rfl⟩,alC (wI 4 40) yba yan (oO 9 45)⟩,cc1 (wI 4 40) (qO 10 46 rfl) (yab _) (fun w u h1=>yev (by omega) w u ((fun _ _ h=>h) _ _ h1))⟩,yd4 (wI 4 40) (oO 11 47) (yaa _)⟩,pF wA (oO 4 40) (oO 12 48)⟩
   intro B7 a7 W7 (S7:Zt [_] [_,_,_,_])
   refine wp_cond_false (S7.bool 0 49 rfl) (wp_skip (inBlkN (thenN ?_)))
   refine wr [V (iV (k0+1:Nat)),V (iV (k0+1:Nat))] [.inr 0] [.inl 1,.inr 1,.inr 2] S7 ?_ ?_
   ·exact jj2 (ya7 wA (oS 3 31) (yaa _)) (mO 0 50)
   intro B8 a8 W8 (S8:Zt [_] [_,_,_])
   refine thenN ?_
   exact ⟨k0+1,⟨by omega,B8,S8.sub [0] [1,2,0]⟩,by omega⟩
  ·have ek:k0=i0:=by omega
   rw [← ek] at g6
   rcases g6 with ⟨g6,rfl⟩ | ⟨g8,rfl,g6⟩
   ·skip
    refine wq [kF] [.inr 0] (.inl 0 :: ur3) S4 ?_ ?_
    ·exact jj1 (ybc wA (oS 2 31) (oS 1 30))
    intro B5 a5 W5 (S5:Zt [_] [_,_,_,_])
    refine wp_seq (wp_cond_false (S5.bool 0 32 rfl) (wp_exit (thenX (thenX (inBlkE (thenN ?_))))))
    refine wq [kT] [.inr 0] [.inl 0,.inr 1,.inr 2,.inr 3] S5 ?_ ?_
    ·exact jj1 mC
    intro B6 a6 W6 (S6:Zt [_] [_,_,_,_])
    refine wp_ret ?_
    exact yav S6 rfl (yay S6 0 2 rfl)
   ·skip
    refine wq [kT] [.inr 0] (.inl 0 :: ur3) S4 ?_ ?_
    ·exact jj1 (ya8 wA (oS 2 31) (oS 1 30))
    intro B5 a5 W5 (S5:Zt [_] [_,_,_,_])
    refine wp_seq (wp_cond_true (S5.bool 0 32 rfl) (wp_skip (thenN (wp_seq (wp_block ?_)))))
    refine wq [V (iV (k0:Nat)),V (AtE 1 (yhl K L k0)),V (yhl K L k0),V (iV (k0:Nat)),V (yhl K L k0)] [.inr 0] [.inl 3,.inl 4,.inr 1,.inr 2,.inr 3] S5 ?_ ?_
    ·exact jj5 (mS 3 31) (axA wA ygn (oS 1 29) (oS 3 31) (yrs (by omega)) rfl) (alA wA ycf yez (oO 1 34)) (mO 0 33) (mO 2 35)
    intro B6 a6 W6 (S6:Zt [_] [_,_,_,_,_])
    rcases g6 with g6 | ⟨g6,g7⟩
    ·skip
     refine wq [V (yhl K L k0),V (iV ((L.getD k0 []).length:Nat)),V (iV (k0:Nat)),kT,kT,.off,.off,.off,.off,.off,.off,.off,.off,kT] [.inr 0] [.inl 13,.inr 2,.inr 3,.inr 4] S6 ?_ ?_
     ·exact ⟨⟨⟨⟨⟨⟨jj8 (mS 1 4) (lnA wA (oO 0 36) Tryz.underlying35) (mS 0 3) (ybz wA (oO 1 37) (oO 2 38)) (mO 3 39) (oF 4 40) (oF 4 40) (oF 4 40),oF 4 40⟩,oF 4 40⟩,oF 4 40⟩,oF 4 40⟩,oF 4 40⟩,pT wA (oO 4 40) (yaa _)⟩
     intro B7 a7 W7 (S7:Zt [_] [_,_,_,_])
     refine wp_cond_true (S7.bool 0 49 rfl) ?_
     refine wq [kF] [.inr 0] [.inl 0,.inr 1,.inr 2,.inr 3] S7 ?_ ?_
     ·exact jj1 mC
     intro B8 a8 W8 (S8:Zt [_] [_,_,_,_])
     refine wp_ret (inBlkR (thenR (thenR (inBlkR (thenR ?_)))))
     exact yav S8 rfl (yay S8 0 2 rfl)
    ·skip
     have hp:=yel g7
     refine wq [V (yhl K L k0),V (iV ((L.getD k0 []).length:Nat)),V (iV (k0:Nat)),kF,kF,V (Part a6 1 0),V (Vv nD D K),V (iV (k0:Nat)),V (iV ((k0+1:Nat):Int)),V (AtE 2 (Zv (D.getD (k0+1) 0) K)),V (Zv (D.getD (k0+1) 0) K),V (iV ((D.getD (k0+1) 0).sign)),kT,kT] [.inr 0] [.inl 13,.inr 2,.inr 3,.inr 4] S6 ?_ ?_
     ·exact ⟨⟨⟨⟨⟨⟨jj8 (mS 1 4) (lnA wA (oO 0 36) Tryz.underlying35) (mS 0 3) (ybn wA (oO 1 37) (oO 2 38)) (mO 3 39) (ptZ (wI 4 40) 0 yb8) (plA (wI 4 40) (oO 5 41) 0 rfl rfl (ploadS rfl yb9)) (mW (wI 4 40) (oS 0 3)),ya7 (wI 4 40) (oO 7 43) (yaa _)⟩,axA (wI 4 40) yb5 (oO 6 42) (oO 8 44) (yej (by omega)) rfl⟩,alC (wI 4 40) yba yan (oO 9 45)⟩,cc1 (wI 4 40) (qO 10 46 rfl) (yab _) (fun w u h1=>yev (by omega) w u ((fun _ _ h=>h) _ _ h1))⟩,yer (wI 4 40) (oO 11 47) (yaa _)⟩,pF wA (oO 4 40) (oO 12 48)⟩
     intro B7 a7 W7 (S7:Zt [_] [_,_,_,_])
     refine wp_cond_true (S7.bool 0 49 rfl) ?_
     refine wq [kF] [.inr 0] [.inl 0,.inr 1,.inr 2,.inr 3] S7 ?_ ?_
     ·exact jj1 mC
     intro B8 a8 W8 (S8:Zt [_] [_,_,_,_])
     refine wp_ret (inBlkR (thenR (thenR (inBlkR (thenR ?_)))))
     exact yav S8 rfl (yay S8 0 2 rfl)
theorem zf5 (w:World)(u:Value)(nD nL K:Nat)(D:List Int)(L:List (List Int))(h:Hs w (SF [Vv nD D K,Mv nL L K]) u)(hD:nD<=1048576)(hL:nL<=1048576)(hK:K<=1048576)(lD:D.length=nD)(lL:L.length=nL)(g:Good D L):CG 77 #[u] w (IS (.bool true)):=zdm w u nD nL K D L h hD hL hK lD lL true (Or.inl ⟨g,rfl⟩)
theorem zf4 (w:World)(u:Value)(nD nL K:Nat)(D:List Int)(L:List (List Int))(h:Hs w (SF [Vv nD D K,Mv nL L K]) u)(hD:nD<=1048576)(hL:nL<=1048576)(hK:K<=1048576)(lD:D.length=nD)(lL:L.length=nL)(g:Bad D L):CG 77 #[u] w (IS (.bool false)):=zdm w u nD nL K D L h hD hL hK lD lL false (Or.inr ⟨g,rfl⟩)
inductive RBad (D:List Int) (L:List (List Int)):Prop
 | none:L.length=0->RBad D L
 | len:L.length≠0->D.length≠L.length+1->RBad D L
 | one:L.length≠0->D.length=L.length+1->D.getD 0 0≠1->RBad D L
 | pos (i0:Nat):L.length≠0->D.length=L.length+1->D.getD 0 0=1->i0 < D.length->(∀ j,j < i0->0 < D.getD j 0)->D.getD i0 0<=0->RBad D L
 | row (i0:Nat):L.length≠0->D.length=L.length+1->D.getD 0 0=1->(∀ j,j < D.length->0 < D.getD j 0)->i0 < L.length->(∀ j,j < i0->(L.getD j []).length=j)->(L.getD i0 []).length≠i0->RBad D L
theorem Bad.r {D:List Int}{L:List (List Int)}(h:Bad D L):RBad D L:=by
 cases h with
 | none h=>exact .none h
 | len h1 h2=>exact .len h1 h2
 | one h1 h2 h3=>exact .one h1 h2 h3
 | row i0 h1 h2 h3 h4 h5 h6 =>
  rcases yf8 (fun j=>decide (0 < D.getD j 0)) D.length with h | ⟨i,hi,h7,h8⟩
  ·rcases yf8 (fun j=>decide ((L.getD j []).length=j)) L.length with g | ⟨j,hj,g1,g2⟩
   ·rcases h6 with h6 | ⟨_,h6⟩
    ·exact absurd (of_decide_eq_true (g i0 h4)) h6
    ·have:=of_decide_eq_true (h (i0+1) (by omega)); omega
   ·exact .row j h1 h2 h3 (fun k hk=>of_decide_eq_true (h k hk)) hj (fun k hk=>of_decide_eq_true (g2 k hk)) (of_decide_eq_false g1)
  ·exact .pos i h1 h2 h3 hi (fun j hj=>of_decide_eq_true (h8 j hj)) (by have:=of_decide_eq_false h7; omega)
theorem yq9 {D:List Int}{L:List (List Int)}{b:Bool}(g:(Good D L/\b=true)\/(Bad D L/\b=false)):(L.length=0/\b=false)\/(L.length≠0/\D.length≠L.length+1/\b=false)\/(L.length≠0/\D.length=L.length+1/\D.getD 0 0≠1/\b=false)\/∃ i0 j0,L.length≠0/\D.length=L.length+1/\D.getD 0 0=1/\i0<=D.length/\(∀ j,j < i0->0 < D.getD j 0)/\((i0 < D.length/\b=false/\D.getD i0 0<=0)\/(i0=D.length/\j0<=L.length/\(∀ j,j < j0->(L.getD j []).length=j)/\((j0=L.length/\b=true)\/(j0 < L.length/\b=false/\(L.getD j0 []).length≠j0)))):=by
 rcases g with ⟨g,hb⟩ | ⟨g,hb⟩
 ·exact Or.inr (Or.inr (Or.inr ⟨D.length,L.length,g.some,g.len,g.one,zha _,fun j hj=>g.d j hj,Or.inr ⟨rfl,zha _,fun j hj=>g.row j hj,Or.inl ⟨rfl,hb⟩⟩⟩))
 ·cases g.r with
  | none h=>exact Or.inl ⟨h,hb⟩
  | len h1 h2=>exact Or.inr (Or.inl ⟨h1,h2,hb⟩)
  | one h1 h2 h3=>exact Or.inr (Or.inr (Or.inl ⟨h1,h2,h3,hb⟩))
  | pos i0 h1 h2 h3 h4 h5 h6=>exact Or.inr (Or.inr (Or.inr ⟨i0,0,h1,h2,h3,by omega,h5,Or.inl ⟨h4,hb,h6⟩⟩))
  | row i0 h1 h2 h3 h4 h5 h6 h7=>exact Or.inr (Or.inr (Or.inr ⟨D.length,i0,h1,h2,h3,zha _,h4,Or.inr ⟨rfl,by omega,h6,Or.inr ⟨h5,hb,h7⟩⟩⟩))
theorem yx7 (w:World)(u:Value)(nD nL K:Nat)(D:List Int)(L:List (List Int))(h:Hs w (SF [Vv nD D K,Mv nL L K]) u)(hD:nD<=1048576)(hL:nL<=1048576)(hK:K<=1048576)(lD:D.length=nD)(lL:L.length=nL)(b:Bool)(g:(Good D L/\b=true)\/(Bad D L/\b=false)):
  CG 41 #[u] w (IS (.bool b)):=by
 refine yak (sl:=[(0,(SF [(Vv nD D K),(Mv nL L K)]))]) Tryz.func41 rfl Tryz.ntmps41 (by simp) (yae rfl (h) yao) ?_
 intro a0 S0
 refine wq [.new (.box 38 (SF [(Vv nD D K),(Mv nL L K)])),kF] [.inl 0] [] S0 ?_ ?_
 ·exact jj2 (bxA wA (oS 0 0) (yf5 yei)) mC
 intro _ a1 _ (S1:Zt [_] [])
 rcases yq9 g with ⟨g1,rfl⟩ | ⟨g1,g2,rfl⟩ | ⟨g1,g2,g3,rfl⟩ | ⟨i0,j0,g1,g2,g3,g4,g5,g6⟩
 ·skip
  refine wp_seq ?_
  refine wq [V (Part a1 1 1),V (Mv nL L K),V (iV (nL:Nat)),kT,kT,.off,.off,.off,.off,.off,.off,.off,.off,kT,kT,.off,.off,.off,.off,.off,.off,.off,kT] [.inr 0] [.inl 22] S1 ?_ ?_
  ·exact ⟨⟨⟨⟨⟨⟨⟨⟨⟨⟨⟨⟨⟨⟨⟨jj8 (ptA wA 0 yaw) (plA wA (oO 0 5) 0 rfl rfl (ploadS rfl yb1)) (lnA wA (oO 1 6) Tryz.underlying36) (ycl wA (oO 2 7) (yaa _)) (mO 3 8) (oF 4 9) (oF 4 9) (oF 4 9),oF 4 9⟩,oF 4 9⟩,oF 4 9⟩,oF 4 9⟩,oF 4 9⟩,pT wA (oO 4 9) (yaa _)⟩,mO 13 18⟩,oF 14 19⟩,oF 14 19⟩,oF 14 19⟩,oF 14 19⟩,oF 14 19⟩,oF 14 19⟩,oF 14 19⟩,pT wA (oO 14 19) (yaa _)⟩
  intro B2 a2 W2 (S2:Zt [_] [_])
  refine wp_cond_true (S2.bool 0 27 rfl) ?_
  refine wq [kF] [.inr 0] [.inl 0] S2 ?_ ?_
  ·exact jj1 mC
  intro B3 a3 W3 (S3:Zt [_] [_])
  refine wp_ret (thenR ?_)
  exact yav S3 rfl (yay S3 0 2 rfl)
 ·skip
  refine wp_seq ?_
  refine wq [V (Part a1 1 1),V (Mv nL L K),V (iV (nL:Nat)),kF,kF,V (Part a1 1 0),V (Vv nD D K),V (iV (nD:Nat)),V (Part a1 1 1),V (Mv nL L K),V (iV (nL:Nat)),V (iV ((nL+1:Nat):Int)),kT,kT,kT,.off,.off,.off,.off,.off,.off,.off,kT] [.inr 0] [.inl 22] S1 ?_ ?_
  ·exact ⟨⟨⟨⟨⟨⟨⟨⟨⟨⟨⟨⟨⟨⟨⟨jj8 (ptA wA 0 yaw) (plA wA (oO 0 5) 0 rfl rfl (ploadS rfl yb1)) (lnA wA (oO 1 6) Tryz.underlying36) (ycd wA (oO 2 7) (yaa _)) (mO 3 8) (ptZ (wI 4 9) 0 yb8) (plA (wI 4 9) (oO 5 10) 0 rfl rfl (ploadS rfl yb9)) (lnA (wI 4 9) (oO 6 11) Tryz.underlying35),ptA (wI 4 9) 0 yaw⟩,plA (wI 4 9) (oO 8 13) 0 rfl rfl (ploadS rfl yb1)⟩,lnA (wI 4 9) (oO 9 14) Tryz.underlying36⟩,ya7 (wI 4 9) (oO 10 15) (yaa _)⟩,ybz (wI 4 9) (oO 7 12) (oO 11 16)⟩,pF wA (oO 4 9) (oO 12 17)⟩,mO 13 18⟩,oF 14 19⟩,oF 14 19⟩,oF 14 19⟩,oF 14 19⟩,oF 14 19⟩,oF 14 19⟩,oF 14 19⟩,pT wA (oO 14 19) (yaa _)⟩
  intro B2 a2 W2 (S2:Zt [_] [_])
  refine wp_cond_true (S2.bool 0 27 rfl) ?_
  refine wq [kF] [.inr 0] [.inl 0] S2 ?_ ?_
  ·exact jj1 mC
  intro B3 a3 W3 (S3:Zt [_] [_])
  refine wp_ret (thenR ?_)
  exact yav S3 rfl (yay S3 0 2 rfl)
 ·skip
  have hone:((D.getD 0 0)-(1)).sign≠0:=yyv (by omega)
  refine wp_seq ?_
  refine wq [V (Part a1 1 1),V (Mv nL L K),V (iV (nL:Nat)),kF,kF,V (Part a1 1 0),V (Vv nD D K),V (iV (nD:Nat)),V (Part a1 1 1),V (Mv nL L K),V (iV (nL:Nat)),V (iV ((nL+1:Nat):Int)),kF,kF,kF,V (Part a1 1 0),V (Vv nD D K),V (AtE 2 (Zv (D.getD 0 0) K)),V (Zv (D.getD 0 0) K),Fw (ZN (1)) w,V (iV (((D.getD 0 0)-1).sign)),kT,kT] [.inr 0] [.inl 22] S1 ?_ ?_
  ·exact ⟨⟨⟨⟨⟨⟨⟨⟨⟨⟨⟨⟨⟨⟨⟨jj8 (ptA wA 0 yaw) (plA wA (oO 0 5) 0 rfl rfl (ploadS rfl yb1)) (lnA wA (oO 1 6) Tryz.underlying36) (ycd wA (oO 2 7) (yaa _)) (mO 3 8) (ptZ (wI 4 9) 0 yb8) (plA (wI 4 9) (oO 5 10) 0 rfl rfl (ploadS rfl yb9)) (lnA (wI 4 9) (oO 6 11) Tryz.underlying35),ptA (wI 4 9) 0 yaw⟩,plA (wI 4 9) (oO 8 13) 0 rfl rfl (ploadS rfl yb1)⟩,lnA (wI 4 9) (oO 9 14) Tryz.underlying36⟩,ya7 (wI 4 9) (oO 10 15) (yaa _)⟩,ybn (wI 4 9) (oO 7 12) (oO 11 16)⟩,pF wA (oO 4 9) (oO 12 17)⟩,mO 13 18⟩,ptZ (wI 14 19) 0 yb8⟩,plA (wI 14 19) (oO 15 20) 0 rfl rfl (ploadS rfl yb9)⟩,axA (wI 14 19) yb5 (oO 16 21) (yaa _) (yej (k:=0) (by omega)) rfl⟩,alC (wI 14 19) yba yan (oO 17 22)⟩,cc1 (wI 14 19) (yaa _) (yah _) (yz1 1 (by omega) (by omega))⟩,cc2 (wI 14 19) (qO 18 23 rfl) (qO 19 24 rfl) (yab _) (fun w u v h1 h2=>yx9 (by omega) (by omega) w u v ((fun _ _ h=>h) _ _ h1) ((ybf yf0) _ _ h2))⟩,ybz (wI 14 19) (oO 20 25) (yaa _) (h:=hone)⟩,pF wA (oO 14 19) (oO 21 26)⟩
  intro B2 a2 W2 (S2:Zt [_] [_])
  refine wp_cond_true (S2.bool 0 27 rfl) ?_
  refine wq [kF] [.inr 0] [.inl 0] S2 ?_ ?_
  ·exact jj1 mC
  intro B3 a3 W3 (S3:Zt [_] [_])
  refine wp_ret (thenR ?_)
  exact yav S3 rfl (yay S3 0 2 rfl)
 ·skip
  have hone:((D.getD 0 0)-(1)).sign=0:=sgn0 (by omega)
  refine wp_seq ?_
  refine wq [V (Part a1 1 1),V (Mv nL L K),V (iV (nL:Nat)),kF,kF,V (Part a1 1 0),V (Vv nD D K),V (iV (nD:Nat)),V (Part a1 1 1),V (Mv nL L K),V (iV (nL:Nat)),V (iV ((nL+1:Nat):Int)),kF,kF,kF,V (Part a1 1 0),V (Vv nD D K),V (AtE 2 (Zv (D.getD 0 0) K)),V (Zv (D.getD 0 0) K),Fw (ZN (1)) w,V (iV (((D.getD 0 0)-1).sign)),kF,kF] [.inr 0] [.inl 22] S1 ?_ ?_
  ·exact ⟨⟨⟨⟨⟨⟨⟨⟨⟨⟨⟨⟨⟨⟨⟨jj8 (ptA wA 0 yaw) (plA wA (oO 0 5) 0 rfl rfl (ploadS rfl yb1)) (lnA wA (oO 1 6) Tryz.underlying36) (ycd wA (oO 2 7) (yaa _)) (mO 3 8) (ptZ (wI 4 9) 0 yb8) (plA (wI 4 9) (oO 5 10) 0 rfl rfl (ploadS rfl yb9)) (lnA (wI 4 9) (oO 6 11) Tryz.underlying35),ptA (wI 4 9) 0 yaw⟩,plA (wI 4 9) (oO 8 13) 0 rfl rfl (ploadS rfl yb1)⟩,lnA (wI 4 9) (oO 9 14) Tryz.underlying36⟩,ya7 (wI 4 9) (oO 10 15) (yaa _)⟩,ybn (wI 4 9) (oO 7 12) (oO 11 16)⟩,pF wA (oO 4 9) (oO 12 17)⟩,mO 13 18⟩,ptZ (wI 14 19) 0 yb8⟩,plA (wI 14 19) (oO 15 20) 0 rfl rfl (ploadS rfl yb9)⟩,axA (wI 14 19) yb5 (oO 16 21) (yaa _) (yej (k:=0) (by omega)) rfl⟩,alC (wI 14 19) yba yan (oO 17 22)⟩,cc1 (wI 14 19) (yaa _) (yah _) (yz1 1 (by omega) (by omega))⟩,cc2 (wI 14 19) (qO 18 23 rfl) (qO 19 24 rfl) (yab _) (fun w u v h1 h2=>yx9 (by omega) (by omega) w u v ((fun _ _ h=>h) _ _ h1) ((ybf yf0) _ _ h2))⟩,ybn (wI 14 19) (oO 20 25) (yaa _) (h:=hone)⟩,pF wA (oO 14 19) (oO 21 26)⟩
  intro B2 a2 W2 (S2:Zt [_] [_])
  refine wp_cond_false (S2.bool 0 27 rfl) (wp_skip (thenN (wp_seq ?_)))
  refine wq [V (iV 0)] [.inr 0] [.inl 0] S2 ?_ ?_
  ·exact jj1 mC
  intro B3 a3 W3 (S3:Zt [_] [_])
  refine wp_block ?_
  refine ybi (fun (k0:Nat) a W=>(k0<=i0)/\∃ Bq,Sta w 57 [(1,(.box 38 (SF [(Vv nD D K),(Mv nL L K)])))] [(3,iV (k0:Nat))] Bq a W) (fun (k0:Nat)=>nD-k0) ?_ 0 ⟨zhs _,B3,S3.sub [0] [0]⟩
  rintro k0 a4 _ ⟨hcond,_,S4⟩
  by_cases hlt:k0 < i0
  ·have hp:=yd9 (g5 k0 hlt)
   refine wp_seq ?_
   refine wq [V (iV (k0:Nat)),V (Part a4 1 0),V (Vv nD D K),V (iV (nD:Nat)),kT] [.inr 0] [.inl 4,.inr 0] S4 ?_ ?_
   ·exact jj5 (mS 0 3) (ptZ wA 0 yb8) (plA wA (oO 1 29) 0 rfl rfl (ploadS rfl yb9)) (lnA wA (oO 2 30) Tryz.underlying35) (ya8 wA (oO 0 28) (oO 3 31))
   intro B5 a5 W5 (S5:Zt [_] [_,_])
   refine wp_cond_true (S5.bool 0 32 rfl) (wp_skip (thenN (wp_seq (wp_block ?_))))
   refine wq [V (Part a5 1 0),V (Vv nD D K),V (iV (k0:Nat)),V (AtE 2 (Zv (D.getD k0 0) K)),V (Zv (D.getD k0 0) K),V (iV ((D.getD k0 0).sign)),kF] [.inr 0] [.inl 6,.inr 1] S5 ?_ ?_
   ·repeat' refine And.intro ?_ ?_
    ·trivial
    ·exact ptZ wA 0 yb8
    ·exact plA wA (oO 0 35) 0 rfl rfl (ploadS rfl yb9)
    ·exact mS 1 3
    ·exact axA wA yb5 (oO 1 36) (oO 2 37) (yej (by omega)) rfl
    ·exact alC wA yba yan (oO 3 38)
    ·exact cc1 wA (qO 4 39 rfl) (yab _) (fun w u h1=>yg3 (by omega) w u ((fun _ _ h=>h) _ _ h1))
    ·exact yd4 wA (oO 5 40) (yaa _)
   intro B6 a6 W6 (S6:Zt [_] [_,_])
   refine wp_cond_false (S6.bool 0 41 rfl) (wp_skip (inBlkN (thenN ?_)))
   refine wr [V (iV (k0:Nat)),V (iV (k0+1:Nat)),V (iV (k0+1:Nat))] [.inr 0] [.inl 2] S6 ?_ ?_
   ·exact jj3 (mS 1 3) (ya7 wA (oO 0 33) (yaa _)) (mO 1 34)
   intro B7 a7 W7 (S7:Zt [_] [_])
   refine thenN ?_
   exact ⟨k0+1,⟨by omega,B7,S7.sub [0] [0]⟩,by omega⟩
  ·have ek:k0=i0:=by omega
   rcases g6 with ⟨g6,rfl,g7⟩ | ⟨g6,g7,g8,g9⟩
   ·skip
    rw [← ek] at g7
    have hp:=yel g7
    refine wp_seq ?_
    refine wq [V (iV (k0:Nat)),V (Part a4 1 0),V (Vv nD D K),V (iV (nD:Nat)),kT] [.inr 0] [.inl 4,.inr 0] S4 ?_ ?_
    ·exact jj5 (mS 0 3) (ptZ wA 0 yb8) (plA wA (oO 1 29) 0 rfl rfl (ploadS rfl yb9)) (lnA wA (oO 2 30) Tryz.underlying35) (ya8 wA (oO 0 28) (oO 3 31))
    intro B5 a5 W5 (S5:Zt [_] [_,_])
    refine wp_cond_true (S5.bool 0 32 rfl) (wp_skip (thenN (wp_seq (wp_block ?_))))
    refine wq [V (Part a5 1 0),V (Vv nD D K),V (iV (k0:Nat)),V (AtE 2 (Zv (D.getD k0 0) K)),V (Zv (D.getD k0 0) K),V (iV ((D.getD k0 0).sign)),kT] [.inr 0] [.inl 6,.inr 1] S5 ?_ ?_
    ·repeat' refine And.intro ?_ ?_
     ·trivial
     ·exact ptZ wA 0 yb8
     ·exact plA wA (oO 0 35) 0 rfl rfl (ploadS rfl yb9)
     ·exact mS 1 3
     ·exact axA wA yb5 (oO 1 36) (oO 2 37) (yej (by omega)) rfl
     ·exact alC wA yba yan (oO 3 38)
     ·exact cc1 wA (qO 4 39 rfl) (yab _) (fun w u h1=>yg3 (by omega) w u ((fun _ _ h=>h) _ _ h1))
     ·exact yer wA (oO 5 40) (yaa _)
    intro B6 a6 W6 (S6:Zt [_] [_,_])
    refine wp_cond_true (S6.bool 0 41 rfl) ?_
    refine wq [kF] [.inr 0] [.inl 0,.inr 1] S6 ?_ ?_
    ·exact jj1 mC
    intro B7 a7 W7 (S7:Zt [_] [_,_])
    refine wp_ret (inBlkR (thenR (thenR (inBlkR (thenR ?_)))))
    exact yav S7 rfl (yay S7 0 2 rfl)
   ·skip
    refine wp_seq ?_
    refine wq [V (iV (k0:Nat)),V (Part a4 1 0),V (Vv nD D K),V (iV (nD:Nat)),kF] [.inr 0] [.inl 4,.inr 0] S4 ?_ ?_
    ·exact jj5 (mS 0 3) (ptZ wA 0 yb8) (plA wA (oO 1 29) 0 rfl rfl (ploadS rfl yb9)) (lnA wA (oO 2 30) Tryz.underlying35) (ybc wA (oO 0 28) (oO 3 31))
    intro B5 a5 W5 (S5:Zt [_] [_,_])
    refine wp_cond_false (S5.bool 0 32 rfl) (wp_exit (thenX (thenX (inBlkE (thenN (wp_seq ?_))))))
    refine wq [V (iV 0)] [.inr 0] [.inl 0,.inr 1] S5 ?_ ?_
    ·exact jj1 mC
    intro B6 a6 W6 (S6:Zt [_] [_,_])
    refine wp_block ?_
    refine ybi (fun (k0:Nat) a W=>(k0<=j0)/\∃ Bq,Sta w 57 [(1,(.box 38 (SF [(Vv nD D K),(Mv nL L K)])))] [(4,iV (k0:Nat))] Bq a W) (fun (k0:Nat)=>nL-k0) ?_ 0 ⟨zhs _,B6,S6.sub [0] [0]⟩
    rintro k0 a7 W7 ⟨hcond,B7,S7⟩
    by_cases hlt:k0 < j0
    ·have hr:=g8 k0 hlt
     refine wp_seq ?_
     refine wq [V (iV (k0:Nat)),V (Part a7 1 1),V (Mv nL L K),V (iV (nL:Nat)),kT] [.inr 0] [.inl 4,.inr 0] S7 ?_ ?_
     ·exact jj5 (mS 0 4) (ptA wA 0 yaw) (plA wA (oO 1 43) 0 rfl rfl (ploadS rfl yb1)) (lnA wA (oO 2 44) Tryz.underlying36) (ya8 wA (oO 0 42) (oO 3 45))
     intro B8 a8 W8 (S8:Zt [_] [_,_])
     refine wp_cond_true (S8.bool 0 46 rfl) (wp_skip (thenN (wp_seq (wp_block ?_))))
     refine wq [V (Part a8 1 1),V (Mv nL L K),V (iV (k0:Nat)),V (AtE 1 (Vv ((L.getD k0 []).length) (L.getD k0 []) K)),V (Vv ((L.getD k0 []).length) (L.getD k0 []) K),V (iV ((L.getD k0 []).length:Nat)),V (iV (k0:Nat)),kF] [.inr 0] [.inl 7,.inr 1] S8 ?_ ?_
     ·repeat' refine And.intro ?_ ?_
      ·trivial
      ·exact ptA wA 0 yaw
      ·exact plA wA (oO 0 49) 0 rfl rfl (ploadS rfl yb1)
      ·exact mS 1 4
      ·exact axA wA ygn (oO 1 50) (oO 2 51) (yrs (by omega)) rfl
      ·exact alA wA ycf yez (oO 3 52)
      ·exact lnA wA (oO 4 53) Tryz.underlying35
      ·exact mS 1 4
      ·exact ybn wA (oO 5 54) (oO 6 55)
     intro B9 a9 W9 (S9:Zt [_] [_,_])
     refine wp_cond_false (S9.bool 0 56 rfl) (wp_skip (inBlkN (thenN ?_)))
     refine wr [V (iV (k0:Nat)),V (iV (k0+1:Nat)),V (iV (k0+1:Nat))] [.inr 0] [.inl 2] S9 ?_ ?_
     ·exact jj3 (mS 1 4) (ya7 wA (oO 0 47) (yaa _)) (mO 1 48)
     intro B10 a10 W10 (S10:Zt [_] [_])
     refine thenN ?_
     exact ⟨k0+1,⟨by omega,B10,S10.sub [0] [0]⟩,by omega⟩
    ·have ek:k0=j0:=by omega
     rcases g9 with ⟨g9,rfl⟩ | ⟨g9,rfl,g10⟩
     ·skip
      refine wp_seq ?_
      refine wq [V (iV (k0:Nat)),V (Part a7 1 1),V (Mv nL L K),V (iV (nL:Nat)),kF] [.inr 0] [.inl 4,.inr 0] S7 ?_ ?_
      ·exact jj5 (mS 0 4) (ptA wA 0 yaw) (plA wA (oO 1 43) 0 rfl rfl (ploadS rfl yb1)) (lnA wA (oO 2 44) Tryz.underlying36) (ybc wA (oO 0 42) (oO 3 45))
      intro B8 a8 W8 (S8:Zt [_] [_,_])
      refine wp_cond_false (S8.bool 0 46 rfl) (wp_exit (thenX (thenX (inBlkE (thenN ?_)))))
      refine wq [kT] [.inr 0] [.inl 0,.inr 1] S8 ?_ ?_
      ·exact jj1 mC
      intro B9 a9 W9 (S9:Zt [_] [_,_])
      refine wp_ret ?_
      exact yav S9 rfl (yay S9 0 2 rfl)
     ·skip
      rw [← ek] at g10
      refine wp_seq ?_
      refine wq [V (iV (k0:Nat)),V (Part a7 1 1),V (Mv nL L K),V (iV (nL:Nat)),kT] [.inr 0] [.inl 4,.inr 0] S7 ?_ ?_
      ·exact jj5 (mS 0 4) (ptA wA 0 yaw) (plA wA (oO 1 43) 0 rfl rfl (ploadS rfl yb1)) (lnA wA (oO 2 44) Tryz.underlying36) (ya8 wA (oO 0 42) (oO 3 45))
      intro B8 a8 W8 (S8:Zt [_] [_,_])
      refine wp_cond_true (S8.bool 0 46 rfl) (wp_skip (thenN (wp_seq (wp_block ?_))))
      refine wq [V (Part a8 1 1),V (Mv nL L K),V (iV (k0:Nat)),V (AtE 1 (Vv ((L.getD k0 []).length) (L.getD k0 []) K)),V (Vv ((L.getD k0 []).length) (L.getD k0 []) K),V (iV ((L.getD k0 []).length:Nat)),V (iV (k0:Nat)),kT] [.inr 0] [.inl 7,.inr 1] S8 ?_ ?_
      ·repeat' refine And.intro ?_ ?_
       ·trivial
       ·exact ptA wA 0 yaw
       ·exact plA wA (oO 0 49) 0 rfl rfl (ploadS rfl yb1)
       ·exact mS 1 4
       ·exact axA wA ygn (oO 1 50) (oO 2 51) (yrs (by omega)) rfl
       ·exact alA wA ycf yez (oO 3 52)
       ·exact lnA wA (oO 4 53) Tryz.underlying35
       ·exact mS 1 4
       ·exact ybz wA (oO 5 54) (oO 6 55)
      intro B9 a9 W9 (S9:Zt [_] [_,_])
      refine wp_cond_true (S9.bool 0 56 rfl) ?_
      refine wq [kF] [.inr 0] [.inl 0,.inr 1] S9 ?_ ?_
      ·exact jj1 mC
      intro B10 a10 W10 (S10:Zt [_] [_,_])
      refine wp_ret (inBlkR (thenR (thenR (inBlkR (thenR ?_)))))
      exact yav S10 rfl (yay S10 0 2 rfl)
theorem yhg (w:World)(u:Value)(nD nL K:Nat)(D:List Int)(L:List (List Int))(h:Hs w (SF [Vv nD D K,Mv nL L K]) u)(hD:nD<=1048576)(hL:nL<=1048576)(hK:K<=1048576)(lD:D.length=nD)(lL:L.length=nL)(g:Good D L):CG 41 #[u] w (IS (.bool true)):=yx7 w u nD nL K D L h hD hL hK lD lL true (Or.inl ⟨g,rfl⟩)
theorem zc7 (w:World)(u:Value)(nD nL K:Nat)(D:List Int)(L:List (List Int))(h:Hs w (SF [Vv nD D K,Mv nL L K]) u)(hD:nD<=1048576)(hL:nL<=1048576)(hK:K<=1048576)(lD:D.length=nD)(lL:L.length=nL)(g:Bad D L):CG 41 #[u] w (IS (.bool false)):=yx7 w u nD nL K D L h hD hL hK lD lL false (Or.inr ⟨g,rfl⟩)
theorem zc1 {A:Int}{D k k':Nat}(hD:D≠0)(hk:k<=67108864)(hk':k'<=67108864):∀ w u v,Zv A k u w->Zv (D:Int) k' v w->CG 50 #[u,v] w (RN (nR A D) (dR A D)):=by
 rintro w u v ⟨s,p,n,c,xs,rfl,h,rfl,hn⟩ ⟨t,q,m,d,ys,rfl,h',eD,hm⟩
 obtain ⟨rfl,rfl⟩:=ygk eD hD
 rw [yth,yse]
 exact ygr (ylo w s p q n c m d xs ys h h' hD (by omega) (by omega))
theorem ypg {A:Int}{k:Nat}(hk:k<=67108864):∀ w u,Zv A k u w->CG 23 #[u] w (RN A 1):=by
 rintro w u ⟨s,p,n,c,xs,rfl,h,rfl,hn⟩
 exact ygr (zgn w s p n c xs h (by omega))
theorem yzd {z:Int}{lo:Nat}:∀ v w,ZN z lo v w->Nmx (ng z) (digs z.natAbs) v w:=fun v w ⟨r,c,e,h,_⟩=>⟨r,_,c,e,h⟩
theorem yf1 {N:Int}{D lo:Nat}:∀ v w,RN N D lo v w->PR (Nmx (ng N) (digs N.natAbs)) (Nmx (ng (D:Int)) (digs (D:Int).natAbs)) v w:=yic yzd yzd
theorem yif:∀ v w,Is (.agg #[.bool false,.slice none 0 0,.bool false,.slice none 0 0]) v w->PR (Nmx false []) (Nmx false []) v w:=fun v w e=>⟨_,_,_,_,e,⟨none,0,0,rfl,Sl.none w⟩,⟨none,0,0,rfl,Sl.none w⟩⟩
theorem mu_b (w:World)(u:Value)(nD nL K:Nat)(D:List Int)(L:List (List Int))(h:Hs w (SF [Vv nD D K,Mv nL L K]) u)(hD:nD<=1048576)(hL:nL<=1048576)(hK:K<=1048576)(lD:D.length=nD)(lL:L.length=nL)(i j:Int)(g:Bad D L):
  CG 42 #[u,.int .i64 i,.int .i64 j] w (TWO (IS (.agg #[.bool false,.slice none 0 0,.bool false,.slice none 0 0])) (IS (.int .i64 51))):=by
 refine yak (sl:=[(0,(SF [(Vv nD D K),(Mv nL L K)])),(1,(iV i)),(2,(iV j))]) Tryz.func42 rfl Tryz.ntmps42 (by simp) (yae rfl (h) (yae rfl (ycy _) (yae rfl (ycy _) yao))) ?_
 intro a0 S0
 refine wq [.new (.box 38 (SF [(Vv nD D K),(Mv nL L K)])),.new (.box 26 zR),V (iV 0)] [.inl 0,.inl 1] [.inr 1,.inr 2] S0 ?_ ?_
 ·exact jj3 (bxA wA (oS 0 0) (yf5 yei)) (nwA wA ya3) mC
 intro _ a1 _ (S1:Zt [_,_] [_,_])
 refine wp_seq (wp_block ?_)
 refine wq [V (SF [(Vv nD D K),(Mv nL L K)]),kF,kT,kT] ur2 (.inl 3 :: ur2) S1 ?_ ?_
 ·exact jj4 (loA 0 wA ygh yei) (ch1 wA (qO 0 9 rfl) (yab _) (fun w u h=>zf4 w u nD nL K D L h hD hL hK lD lL g)) (ycc wA (oO 1 10)) (mO 2 11)
 intro _ a2 _ (S2:Zt [_,_] [_,_,_])
 refine wp_cond_true (S2.bool 0 8 rfl) ?_
 refine wq [.val zR,.put (.inl 6) (.box 26 zR),V (iV 51)] ur2 [.inl 2] S2 ?_ ?_
 ·exact jj3 (ycr rfl wA rfl rfl) (seA 1 wA (oO 0 12) yaj ybk ybk) mC
 intro _ a3 _ (S3:Zt [_,_] [_])
 refine wp_ret (inBlkR (thenR ?_))
 exact ydi S3 rfl (ybb S3 1 6 rfl yaj ybk) (yay S3 0 7 rfl)
theorem mu_e (w:World)(u:Value)(nD nL K:Nat)(D:List Int)(L:List (List Int))(h:Hs w (SF [Vv nD D K,Mv nL L K]) u)(hD:nD<=1048576)(hL:nL<=1048576)(hK:K<=1048576)(lD:D.length=nD)(lL:L.length=nL)(i:Nat)(g:Good D L)(hi:i < nL):
  CG 42 #[u,.int .i64 (i:Nat),.int .i64 (i:Nat)] w (TWO (RN 1 1) (IS (.int .i64 0))):=by
 refine yak (sl:=[(0,(SF [(Vv nD D K),(Mv nL L K)])),(1,(iV (i:Nat))),(2,(iV (i:Nat)))]) Tryz.func42 rfl Tryz.ntmps42 (by simp) (yae rfl (h) (yae rfl (ycy _) (yae rfl (ycy _) yao))) ?_
 intro a0 S0
 refine wq [.new (.box 38 (SF [(Vv nD D K),(Mv nL L K)])),.new (.box 26 zR),V (iV 0)] [.inl 0,.inl 1] [.inr 1,.inr 2] S0 ?_ ?_
 ·exact jj3 (bxA wA (oS 0 0) (yf5 yei)) (nwA wA ya3) mC
 intro _ a1 _ (S1:Zt [_,_] [_,_])
 refine wp_seq (wp_block ?_)
 refine wq [V (SF [(Vv nD D K),(Mv nL L K)]),kT,kF,kF] ur2 (.inl 3 :: ur2) S1 ?_ ?_
 ·exact jj4 (loA 0 wA ygh yei) (ch1 wA (qO 0 9 rfl) (yab _) (fun w u h=>zf5 w u nD nL K D L h hD hL hK lD lL g)) (ycc wA (oO 1 10)) (mO 2 11)
 intro _ a2 _ (S2:Zt [_,_] [_,_,_])
 refine wp_cond_false (S2.bool 0 8 rfl) ?_
 refine wq [V (iV (i:Nat)),kF,kF,V (iV (i:Nat)),V (iV (i:Nat)),kF,kF,kF,V (iV (i:Nat)),V (Part a2 3 1),V (Mv nL L K),V (iV (nL:Nat)),kF,kF,kF] ur2 [.inl 14,.inr 1,.inr 2] S2 ?_ ?_
 ·exact ⟨⟨⟨⟨⟨⟨⟨jj8 (mS 2 2) (ybc wA (oO 0 14) (yaa _)) (mO 1 15) (mW (wI 2 16) (oS 2 2)) (mW (wI 2 16) (oS 1 1)) (ybv (wI 2 16) (oO 3 17) (oO 4 18)) (pF wA (oO 2 16) (oO 5 19)) (mO 6 20),mW (wI 7 21) (oS 1 1)⟩,ptA (wI 7 21) 0 yaw⟩,plA (wI 7 21) (oO 9 23) 0 rfl rfl (ploadS rfl yb1)⟩,lnA (wI 7 21) (oO 10 24) Tryz.underlying36⟩,yfn (wI 7 21) (oO 8 22) (oO 11 25)⟩,pF wA (oO 7 21) (oO 12 26)⟩,mO 13 27⟩
 intro _ a3 _ (S3:Zt [_,_] [_,_,_])
 refine wp_cond_false (S3.bool 0 13 rfl) ?_
 refine wq [V (iV (i:Nat)),V (iV (i:Nat)),kT,kT] ur2 [.inl 3,.inr 1,.inr 2] S3 ?_ ?_
 ·exact jj4 (mS 2 2) (mS 1 1) (ycl wA (oO 0 30) (oO 1 31)) (mO 2 32)
 intro _ a4 _ (S4:Zt [_,_] [_,_,_])
 refine wp_cond_true (S4.bool 0 29 rfl) ?_
 refine wq [Fw (ZN (1)) w,Fw (RN 1 1) w,.put (.inl 6) (.box 26 ((RN 1 1) w.heap.size)),V (iV 0)] ur2 [.inl 3] S4 ?_ ?_
 ·exact jj4 (cc1 wA (yaa _) (yah _) (yjz (1) (by omega) (by omega))) (cc1 wA (qO 0 33 rfl) (ydx _ _) (fun w u h1=>ysr (k:=1) (by omega) w u (ybf yf0 _ _ h1))) (seA 1 wA (oO 1 34) yaj ybk (ybm yai yai)) mC
 intro _ a5 _ (S5:Zt [_,_] [_])
 refine wp_ret (inBlkR (thenR ?_))
 exact ydi S5 rfl (ybb S5 1 6 rfl yaj (ybm yai yai)) (yay S5 0 7 rfl)
theorem zgm (w:World)(u:Value)(nD nL K:Nat)(D:List Int)(L:List (List Int))(h:Hs w (SF [Vv nD D K,Mv nL L K]) u)(hD:nD<=1048576)(hL:nL<=1048576)(hK:K<=1048576)(lD:D.length=nD)(lL:L.length=nL)(i j:Nat)(d0:Nat)(g:Good D L)(hi:i < nL)(hj:j < i)(hd:D.getD (j+1) 0=(d0:Int))(hd0:d0≠0):
  CG 48 #[u,.int .i64 (i:Nat),.int .i64 (j:Nat)] w (RN (nR ((L.getD i []).getD j 0) d0) (dR ((L.getD i []).getD j 0) d0)):=by
 have hl:=g.len
 have hr:=g.row i (by omega)
 refine yak (sl:=[(0,(SF [(Vv nD D K),(Mv nL L K)])),(1,(iV (i:Nat))),(2,(iV (j:Nat)))]) Tryz.func48 rfl Tryz.ntmps48 (by simp) (yae rfl (h) (yae rfl (ycy _) (yae rfl (ycy _) yao))) ?_
 intro a0 S0
 refine wq [.new (.box 38 (SF [(Vv nD D K),(Mv nL L K)])),.new (.box 26 zR)] [.inl 0,.inl 1] [.inr 1,.inr 2] S0 ?_ ?_
 ·exact jj2 (bxA wA (oS 0 0) (yf5 yei)) (nwA wA ya3)
 intro _ a1 _ (S1:Zt [_,_] [_,_])
 refine wp_seq ?_
 refine wq [V (iV (i:Nat)),V (iV (j:Nat)),kF] ur2 (.inl 2 :: ur2) S1 ?_ ?_
 ·exact jj3 (mS 0 1) (mS 1 2) (ycd wA (oO 0 7) (oO 1 8))
 intro _ a2 _ (S2:Zt [_,_] [_,_,_])
 refine wp_cond_false (S2.bool 0 9 rfl) (wp_skip (thenN ?_))
 refine wq [V (Part a2 3 1),V (Mv nL L K),V (iV (i:Nat)),V (AtE 1 (Vv ((L.getD i []).length) (L.getD i []) K)),V (Vv ((L.getD i []).length) (L.getD i []) K),V (iV (j:Nat)),V (AtE 2 (Zv ((L.getD i []).getD j 0) K)),V (Zv ((L.getD i []).getD j 0) K),V (Part a2 3 0),V (Vv nD D K),V (iV (j:Nat)),V (iV ((j+1:Nat):Int)),V (AtE 2 (Zv (D.getD (j+1) 0) K)),V (Zv (D.getD (j+1) 0) K),Fw (RN (nR ((L.getD i []).getD j 0) d0) (dR ((L.getD i []).getD j 0) d0)) w,.put (.inl 6) (.box 26 ((RN (nR ((L.getD i []).getD j 0) d0) (dR ((L.getD i []).getD j 0) d0)) w.heap.size))] ur2 [] S2 ?_ ?_
 ·exact ⟨⟨⟨⟨⟨⟨⟨⟨jj8 (ptA wA 0 yaw) (plA wA (oO 0 12) 0 rfl rfl (ploadS rfl yb1)) (mS 1 1) (axA wA ygn (oO 1 13) (oO 2 14) (yrs (by omega)) rfl) (alA wA ycf yez (oO 3 15)) (mS 2 2) (axA wA yb5 (oO 4 16) (oO 5 17) (yej (by omega)) rfl) (alC wA yba yan (oO 6 18)),ptZ wA 0 yb8⟩,plA wA (oO 8 20) 0 rfl rfl (ploadS rfl yb9)⟩,mS 2 2⟩,ya7 wA (oO 10 22) (yaa _)⟩,axA wA yb5 (oO 9 21) (oO 11 23) (yej (by omega)) rfl⟩,alC wA yba yan (oO 12 24)⟩,cc2 wA (qO 7 19 rfl) (qO 13 25 rfl) (ydx _ _) (fun w u v h1 h2=>zc1 (k:=K) (k':=K) hd0 (by omega) (by omega) w u v ((fun _ _ h=>h) _ _ h1) (by rw [← hd]; exact (fun _ _ h=>h) _ _ h2))⟩,seA 1 wA (oO 14 26) yaj ybk (ybm yai yai)⟩
 intro _ a3 _ (S3:Zt [_,_] [])
 refine wp_ret ?_
 exact yav S3 rfl (ybb S3 1 6 rfl yaj (ybm yai yai))
theorem za5 (w:World)(u:Value)(nD nL K:Nat)(D:List Int)(L:List (List Int))(h:Hs w (SF [Vv nD D K,Mv nL L K]) u)(hD:nD<=1048576)(hL:nL<=1048576)(hK:K<=1048576)(lD:D.length=nD)(lL:L.length=nL)(i d0:Nat)(g:Good D L)(hi:i < nL)(hd:D.getD i 0=(d0:Int))(hd0:d0≠0):
  CG 46 #[u,.int .i64 (i:Nat)] w (RN (nR (D.getD (i+1) 0) d0) (dR (D.getD (i+1) 0) d0)):=by
 have hl:=g.len
 refine yak (sl:=[(0,(SF [(Vv nD D K),(Mv nL L K)])),(1,(iV (i:Nat)))]) Tryz.func46 rfl Tryz.ntmps46 (by simp) (yae rfl (h) (yae rfl (ycy _) yao)) ?_
 intro a0 S0
 refine wq [.new (.box 38 (SF [(Vv nD D K),(Mv nL L K)])),.new (.box 26 zR)] [.inl 0,.inl 1] [.inr 1] S0 ?_ ?_
 ·exact jj2 (bxA wA (oS 0 0) (yf5 yei)) (nwA wA ya3)
 intro _ a1 _ (S1:Zt [_,_] [_])
 refine wq [V (Part a1 2 0),V (Vv nD D K),V (iV (i:Nat)),V (iV ((i+1:Nat):Int)),V (AtE 2 (Zv (D.getD (i+1) 0) K)),V (Zv (D.getD (i+1) 0) K),V (Part a1 2 0),V (Vv nD D K),V (iV (i:Nat)),V (AtE 2 (Zv (D.getD i 0) K)),V (Zv (D.getD i 0) K),Fw (RN (nR (D.getD (i+1) 0) d0) (dR (D.getD (i+1) 0) d0)) w,.put (.inl 4) (.box 26 ((RN (nR (D.getD (i+1) 0) d0) (dR (D.getD (i+1) 0) d0)) w.heap.size))] ur2 [] S1 ?_ ?_
 ·exact ⟨⟨⟨⟨⟨jj8 (ptZ wA 0 yb8) (plA wA (oO 0 5) 0 rfl rfl (ploadS rfl yb9)) (mS 0 1) (ya7 wA (oO 2 7) (yaa _)) (axA wA yb5 (oO 1 6) (oO 3 8) (yej (by omega)) rfl) (alC wA yba yan (oO 4 9)) (ptZ wA 0 yb8) (plA wA (oO 6 11) 0 rfl rfl (ploadS rfl yb9)),mS 0 1⟩,axA wA yb5 (oO 7 12) (oO 8 13) (yej (by omega)) rfl⟩,alC wA yba yan (oO 9 14)⟩,cc2 wA (qO 5 10 rfl) (qO 10 15 rfl) (ydx _ _) (fun w u v h1 h2=>zc1 (k:=K) (k':=K) hd0 (by omega) (by omega) w u v ((fun _ _ h=>h) _ _ h1) (by rw [← hd]; exact (fun _ _ h=>h) _ _ h2))⟩,seA 1 wA (oO 11 16) yaj ybk (ybm yai yai)⟩
 intro _ a2 _ (S2:Zt [_,_] [])
 refine wp_ret ?_
 exact yav S2 rfl (ybb S2 1 4 rfl yaj (ybm yai yai))
def QQ (P:Int)(Q:Nat):Nat->Pr:=RN (nR P Q) (dR P Q)
theorem ybr (P:Int)(Q:Nat):Fresh (QQ P Q):=ydx _ _
theorem ynd {P P':Int}{Q Q':Nat}(hQ:Q≠0)(hQ':Q'≠0)(h:P*(Q':Int)=P'*(Q:Int)):QQ P Q=QQ P' Q':=by
 obtain ⟨a,b⟩:=ytb hQ hQ' h
 unfold QQ
 rw [a,b]
theorem qq_1 (A:Int):RN A 1=QQ A 1:=by
 unfold QQ nR dR
 rw [Nat.gcd_one_right,Nat.div_one,Nat.div_one]
 congr 1
 unfold sg ng
 by_cases h:A < 0
 ·simp [h]; omega
 ·simp [h]; omega
theorem ych {P:Int}{Q lo:Nat}:Shp 4 (QQ P Q lo):=ybm yai yai
theorem yne {P:Int}{Q k lo:Nat}(h:(digs P.natAbs).length<=k)(h':(digs Q).length<=k):∀ v w,QQ P Q lo v w->Rv (nR P Q) ((dR P Q:Nat):Int) k k v w:=zed (zds h) (zcf h')
theorem yt4 {P P':Int}{Q Q':Nat}:(nR P Q*(dR P' Q':Int)+nR P' Q'*(dR P Q:Int))*((Q*Q':Nat):Int)=(P*(Q':Int)+P'*(Q:Int))*((dR P Q*dR P' Q':Nat):Int):=by
 have e1:=yia P Q
 have e2:=yia P' Q'
 rw [zho,zho]
 generalize nR P Q=n at *
 generalize nR P' Q'=n' at *
 generalize (dR P Q:Int)=d at *
 generalize (dR P' Q':Int)=d' at *
 generalize (Q:Int)=q at *
 generalize (Q':Int)=q' at *
 grind
theorem ywy {P P':Int}{Q Q':Nat}:(nR P Q*nR P' Q')*((Q*Q':Nat):Int)=(P*P')*((dR P Q*dR P' Q':Nat):Int):=by
 have e1:=yia P Q
 have e2:=yia P' Q'
 rw [zho,zho]
 generalize nR P Q=n at *
 generalize nR P' Q'=n' at *
 generalize (dR P Q:Int)=d at *
 generalize (dR P' Q':Int)=d' at *
 generalize (Q:Int)=q at *
 generalize (Q':Int)=q' at *
 grind
theorem zd6 {P P':Int}{Q Q' k k' lo lo':Nat}(hQ:Q≠0)(hQ':Q'≠0)(b1:(digs P.natAbs).length<=k)(b2:(digs Q).length<=k)(b3:(digs P'.natAbs).length<=k')(b4:(digs Q').length<=k')(hk:k<=8388608)(hk':k'<=8388608):
  ∀ w u v,QQ P Q lo u w->QQ P' Q' lo' v w->CG 44 #[u,v] w (QQ (P*(Q':Int)+P'*(Q:Int)) (Q*Q')):=fun w u v h h'=>by
 have:=yz2 (yf3 hQ) (yf3 hQ') hk hk hk' hk' w u v (yne b1 b2 u w h) (yne b3 b4 v w h')
 exact Gives.cast this (ynd (zh2 (yf3 hQ) (yf3 hQ')) (zh2 hQ hQ') yt4)
theorem yt5 {P P':Int}{Q Q' k k' lo lo':Nat}(hQ:Q≠0)(hQ':Q'≠0)(b1:(digs P.natAbs).length<=k)(b2:(digs Q).length<=k)(b3:(digs P'.natAbs).length<=k')(b4:(digs Q').length<=k')(hk:k<=8388608)(hk':k'<=8388608):
  ∀ w u v,QQ P Q lo u w->QQ P' Q' lo' v w->CG 45 #[u,v] w (QQ (P*P') (Q*Q')):=fun w u v h h'=>by
 have hD:=yf3 (X:=P) hQ
 have hM:=yf3 (X:=P') hQ'
 have key:=za2 w u v (nR P Q) (nR P' Q') (dR P Q) (dR P' Q') k k k' k' (yp9 (yne b1 b2 u w h)).hs (yp9 (yne b3 b4 v w h')).hs hD hM hk hk hk' hk'
 exact Gives.cast key (ynd (zh2 hD hM) (zh2 hQ hQ') ywy)
def dN (D:List Int)(i:Nat):Nat:=(D.getD i 0).toNat
theorem yqy {D:List Int}{L:List (List Int)}(g:Good D L){i:Nat}(hi:i < D.length):D.getD i 0=(dN D i:Int)/\dN D i≠0:=by
 have:=g.d i hi
 unfold dN
 omega
theorem ytg {n k:Nat}{A:List (List Int)}{u:Value}{w:World}(h:Mv n A k u w):Mdl A k:=fun i r hr=>by
 obtain ⟨p,c,_,_,_,hall⟩:=h
 obtain ⟨b,o,v,_,_,_,hv⟩:=hall i (Vv r.length r k) (by rw [zhi,hr]; rfl)
 exact yie hv
theorem yle {L:List (List Int)}{K:Nat}(h:Mdl L K)(i:Nat):Dl (L.getD i []) K:=by
 rw [zhc]
 cases e:L[i]? with
 | none=>exact fun j z hz=>by simp at hz
 | some r=>exact h i r e
def wtD (D:List Int):Nat->Nat
 | 0=>0
 | k+1=>wtD D k+(digs (D.getD k 0).natAbs).length

end Go.Proofs.YtdnindaohpdblaaGreat
