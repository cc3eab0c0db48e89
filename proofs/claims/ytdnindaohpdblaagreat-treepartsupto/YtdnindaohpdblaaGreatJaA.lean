import Derived.Test.YtdnindaohpdblaaGreatDtA
import Derived.Test.YtdnindaohpdblaaGreatHxA
set_option linter.all false
namespace Go.Proofs.YtdnindaohpdblaaGreat
open Go Go.RowKit Nt
set_option maxRecDepth 20000
set_option maxHeartbeats 16000000
def gr (Bm:List (List Int)):Nat->Nat->Int:=fun r c=>dotR (Bm.getD r []) (Bm.getD c [])
theorem yzy {A B q:Int}(hB:B≠0)(h:A=B*q):fl A B=q/\rm A B=0:=
 yf9 hB (by rw [h,zjb]; omega) (fun h=>⟨by omega,h⟩) (fun h=>⟨h,by omega⟩)
section
variable {G:Dt.Mt} {D L M:List Int} {i j K:Nat}
end


section
variable {ops:Array Oper} {l:List Kd} {bx:Bxs} {sl:List (Tmp × Pr)} {i:Nat} {o:Oper} {Q:Exit->Act->World->Prop} {a0:Act} {n:Nat} {w0:World}
end



theorem zd7 {P:Int}{Q:Nat}(hQ:Q≠0):nR P Q*(Q:Int)=P*(dR P Q:Int):=yia P Q
theorem zgg {P:Int}{Q:Nat}(hQ:Q≠0):nR (-nR P Q) (dR P Q)=nR (-P) Q/\dR (-nR P Q) (dR P Q)=dR (-P) Q:=by
 refine ytb (yf3 hQ) hQ ?_
 have:=zd7 (P:=P) hQ
 rw [zk8,zk8,this]
theorem yt6 {P P':Int}{Q Q' k k' lo lo':Nat}(hQ:Q≠0)(hQ':Q'≠0)(b1:(digs P.natAbs).length<=k)(b2:(digs Q).length<=k)(b3:(digs P'.natAbs).length<=k')(b4:(digs Q').length<=k')(hk:k<=8388608)(hk':k'<=8388608):
  ∀ w u v,QQ P Q lo u w->QQ P' Q' lo' v w->CG 22 #[u,v] w (QQ (P*(Q':Int)+(-P')*(Q:Int)) (Q*Q')):=fun w u v h h'=>by
 have:=yz3 (yf3 hQ) (yf3 hQ') hk hk hk' hk' w u v (yne b1 b2 u w h) (yne b3 b4 v w h')
 obtain ⟨e1,e2⟩:=zgg (P:=P') hQ'
 rw [e1,e2] at this
 exact Gives.cast this (ynd (zh2 (yf3 hQ) (yf3 hQ')) (zh2 hQ hQ') yt4)

section
variable {G:Nat->Nat->Int} {mm KK:Nat}
end
abbrev qs (l:List (Int × Nat)):List (Nat->Pr):=l.map (fun p=>QQ p.1 p.2)


end Go.Proofs.YtdnindaohpdblaaGreat
