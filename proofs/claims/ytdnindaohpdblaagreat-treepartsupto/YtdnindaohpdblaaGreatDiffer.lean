/-
 euclid.differ: a p-b q,where that is not below 0.
-/
import Derived.Test.YtdnindaohpdblaaGreatRsA
set_option linter.all false
namespace Go.Proofs.YtdnindaohpdblaaGreat
open Go.RowKit Nt
set_option maxRecDepth 20000

theorem zer {w w':World}{p:Option Addr}{n c g:Nat}{xs zs:List Nat}(h:Sl w p n c xs)(hw:Wr w g zs w')(ha:Apart p xs g):Sl w' p n c xs:=⟨h.len,h.cap,h.max,h.nil,h.ok,hw.limbs h.lie ha⟩

theorem yd2 (xs:List Nat)(k:Nat):val (xs.take (k+1))=val (xs.take k)+4294967296 ^ k*xs.getD k 0:=by
 by_cases h:k < xs.length
 ·exact yau xs k h
 ·rw [zhg (by omega),zhg (by omega),zhc,zim (by omega)]; simp
theorem yn6 {M VZ X Y p q P Q B P' Q' B' a b x y z:Nat}(h:VZ+Y*q+P*M=X*p+(Q+B)*M)(ha:a+4294967296*P'=P+x*p)(hb:b+4294967296*Q'=Q+y*q)(hz:z+(b+B)=a+4294967296*B'):
  VZ+M*z+(Y+M*y)*q+P'*(M*4294967296)=(X+M*x)*p+(Q'+B')*(M*4294967296):=by
 have h1:z+y*q+4294967296*P'+(Q+B)=x*p+4294967296*(Q'+B')+P:=by omega
 have h2:M*(z+y*q+4294967296*P'+(Q+B))=M*(x*p+4294967296*(Q'+B')+P):=by rw [h1]
 grind
theorem yqz {M VZ U V P Q B:Nat}(h:VZ+V+P*M=U+(Q+B)*M)(hz:VZ < M)(hle:V<=U)(hlt:U < V+M):VZ=U-V:=by
 have h1:VZ+P*M=(U-V)+(Q+B)*M:=by omega
 have h2:U-V < M:=by omega
 have h3:(VZ+P*M) % M=VZ:=by rw [zku,zi7 hz]
 rw [← h3,h1,zku,zi7 h2]

set_option maxHeartbeats 4000000 in
theorem yih (w:World)(pa pb:Option Addr)(n c m d:Nat)(xs ys:List Nat)(p q L:Nat)(h:Sl w pa n c xs)(h':Sl w pb m d ys)(hp:p < 4294967296)(hq:q < 4294967296)(hL:max n m=L)(hs:L<=70368744177664)
  (hle:val ys*q<=val xs*p) (hlt:val xs*p < val ys*q+4294967296 ^ L):
  Calls Tryz.prog 145 #[.slice pa n c,.int .u64 p,.slice pb m d,.int .u64 q] w fun e w'=>∃ r cr,e=.returned (.slice r (digs (val xs*p-val ys*q)).length cr)/\Res w w' r cr (val xs*p-val ys*q):=by
 have HX:=hid h
 have HY:=hid h'
 have hnL:n<=L:=by omega
 have hmL:m<=L:=by omega
 have hmax:max (n:Int) (m:Int)=(L:Int):=by omega
 have HLE:=hid hle
 have HLT:=hid hlt
 clear h h' hle hlt hL
 go_enter Tryz.func145,Tryz.ntmps145
 have hcase:(n < m/\∀ W:World,(Instr.makeSlice 22 (.int .i64 (m:Int)) (.int .i64 (m:Int))).run Tryz.prog W=.ok (.slice (some ⟨W.heap.size,0,none⟩) L L) (W.alloc (.cells (U (List.replicate L 0)).toArray 64)))\/(m<=n/\∀ W:World,(Instr.makeSlice 22 (.int .i64 (n:Int)) (.int .i64 (n:Int))).run Tryz.prog W=.ok (.slice (some ⟨W.heap.size,0,none⟩) L L) (W.alloc (.cells (U (List.replicate L 0)).toArray 64))):=by
  rcases zi0 n m with hc | hc
  ·obtain rfl:L=m:=by omega
   exact .inl ⟨hc,ydk L (by omega)⟩
  ·obtain rfl:L=n:=by omega
   exact .inr ⟨hc,ydk L (by omega)⟩
 rcases hcase with ⟨hc,M⟩ | ⟨hc,M⟩
 all_goals
  go_wp2_with fail
  obtain ⟨W,hW⟩:∃ W,W=w.alloc (.cells (U (List.replicate L 0)).toArray 64):=⟨_,rfl⟩
  have HB:=hid (show Below w.heap.size w W from by rw [hW]; exact (Below.refl _ _).alloc (zha _) _)
  have HG:=hid (show Blk W w.heap.size (List.replicate L 0) from by rw [hW]; exact heap_alloc_last _ _)
  rw [← hW]
  clear hW M
  obtain ⟨g,hg⟩:∃ g,g=w.heap.size:=⟨_,rfl⟩
  rw [← hg] at HG ⊢
  have HGE:=hid hg
  clear hg
  go_loopw [10,11,12,23] (fun pl mi bo i wr=>∃ k P Q B:Nat,k<=L/\i=.int .i64 k/\pl=.int .u64 P/\mi=.int .u64 Q/\bo=.int .u64 B/\P < 4294967296/\Q < 4294967296/\B<=1/\∃ Z:List Nat,Hid (Z.length=k/\Ok Z/\val Z+val (ys.take k)*q+P*4294967296 ^ k=val (xs.take k)*p+(Q+B)*4294967296 ^ k/\Wr W g ([] ++ (Z ++ (List.replicate L 0).drop k) ++ []) wr)) (fun _ _ _ i _=>L-(intOf i).toNat)
  case atStart=>exact ⟨0,0,0,0,zhs _,rfl,rfl,rfl,rfl,by omega,by omega,by omega,[],rfl,Ok.nil,by simp [val],by simpa using Wr.refl HG.out⟩
  case round =>
   obtain ⟨k,P,Q,B,hk,rfl,rfl,rfl,rfl,hP,hQ,hB,Z,HZ⟩:=hrel
   by_cases hlt:k < L
   ·have SX:=zer (HX.out.below HB.out) HZ.out.2.2.2 (HX.out.apart (by rw [HGE.out]; exact zha _))
    have SY:=zer (HY.out.below HB.out) HZ.out.2.2.2 (HY.out.apart (by rw [HGE.out]; exact zha _))
    have LX:=ymw wr pa n c xs SX k (by omega)
    have LY:=ymw wr pb m d ys SY k (by omega)
    obtain ⟨x,hx⟩:∃ x,xs.getD k 0=x:=⟨_,rfl⟩
    obtain ⟨y,hy⟩:∃ y,ys.getD k 0=y:=⟨_,rfl⟩
    have hxb:x < 4294967296:=by rw [← hx]; exact HX.out.ok.getD k
    have hyb:y < 4294967296:=by rw [← hy]; exact HY.out.ok.getD k
    rw [hx] at LX
    rw [hy] at LY
    have HLX:=hid LX
    have HLY:=hid LY
    have xp:x*p<=18446744065119617025:=by
     have h1:x*p<=4294967295*4294967295:=ziz (by omega) (by omega)
     omega
    have yq:y*q<=18446744065119617025:=by
     have h1:y*q<=4294967295*4294967295:=ziz (by omega) (by omega)
     omega
    have xp1:(x:Int)*(p:Int)<=18446744065119617025:=by rw [← zho]; omega
    have xp0:0<=(x:Int)*(p:Int):=by rw [← zho]; omega
    have yq1:(y:Int)*(q:Int)<=18446744065119617025:=by rw [← zho]; omega
    have yq0:0<=(y:Int)*(q:Int):=by rw [← zho]; omega
    have hblk:=Wr.blk HG.out HZ.out.2.2.2
    have hc1:=hblk.cell k (by have:=HZ.out.1; simp; omega)
    have hf1:=hblk.frozen k
    obtain ⟨u,hu⟩:∃ u,([] ++ (Z ++ (List.replicate L 0).drop k) ++ []).getD k 0=u:=⟨_,rfl⟩
    rw [hu] at hc1
    have HXK:=hid hx
    have HYK:=hid hy
    clear hx hy SX SY LX LY hblk hu
    go_wp2_with (first | (go_at_call_of 150 (Value.slice pa n c); refine HLX.out.mono ?_; rintro e w1 ⟨rfl,rfl⟩) | (go_at_call_of 150 (Value.slice pb m d); refine HLY.out.mono ?_; rintro e w1 ⟨rfl,rfl⟩))
    obtain ⟨hz1,hz2,hz3,hz4⟩:=HZ.out
    obtain ⟨a,ha⟩:∃ a,(P+x*p) % 4294967296=a:=⟨_,rfl⟩
    obtain ⟨b,hb⟩:∃ b,(Q+y*q) % 4294967296=b:=⟨_,rfl⟩
    have ha':((P:Int)+(x:Int)*(p:Int)) % 4294967296=(a:Int):=by rw [← zho]; omega
    have hb':((Q:Int)+(y:Int)*(q:Int)) % 4294967296=(b:Int):=by rw [← zho]; omega
    have hPd:((P:Int)+(x:Int)*(p:Int)) / 4294967296=(((P+x*p) / 4294967296:Nat):Int):=by rw [← zho]; omega
    have hQd:((Q:Int)+(y:Int)*(q:Int)) / 4294967296=(((Q+y*q) / 4294967296:Nat):Int):=by rw [← zho]; omega
    obtain ⟨z,B',b1,b2,e1,e2,e3⟩:=yis a b B (by omega) (by omega) hB
    rw [ha',hb',hPd,hQd,e1,e2]
    refine ⟨⟨k+1,(P+x*p) / 4294967296,(Q+y*q) / 4294967296,B',by omega,by go_num,rfl,rfl,rfl,by omega,by omega,b2,Z ++ [z],by simp [hz1],hz2.snoc b1,?_,?_⟩,?_⟩
    ·rw [yci,hz1,yd2,yd2,HXK.out,HYK.out,zhu]
     exact yn6 hz3 (by omega) (by omega) e3
    ·exact Wr.next' HG.out hz1 (by simp; omega) hz4 (by simp) rfl
    ·simp [intOf]; omega
   ·have hkL:k=L:=by omega
    have hZ:val Z=val xs*p-val ys*q:=by
     obtain ⟨hz1,hz2,hz3,hz4⟩:=HZ.out
     rw [hkL,zhg (l:=xs) (by rw [HX.out.len]; omega),zhg (l:=ys) (by rw [HY.out.len]; omega)] at hz3
     have h1:=yc1 hz2
     rw [hz1,hkL] at h1
     exact yqz hz3 h1 HLE.out HLT.out
    have hW2:Wr W g Z wr:=by
     have:=HZ.out.2.2.2
     rwa [hkL,ziu (by simp),zhz,zhz,zh8] at this
    have hz1:Z.length=L:=by rw [HZ.out.1,hkL]
    have R:=hid (Res.row (w:=w) (w':=wr) (hW2.below HB.out (by rw [HGE.out]; exact zha _)) (Wr.blk HG.out hW2) HZ.out.2.1 hZ (by rw [HGE.out]; exact zha _) hz1 (by unfold maxLen; omega))
    have T:=hid (yzw wr (some ⟨g,0,none⟩) L L (digs (val xs*p-val ys*q)).length Z (by rw [hZ]) hz1 (zha _) (by unfold maxLen; omega) HZ.out.2.1 (Wr.blk HG.out hW2).limbs)
    clear hZ hW2 hz1 HZ
    go_wp2_with fail
    refine T.out.mono ?_
    rintro e w3 ⟨rfl,rfl⟩
    go_wp2
    go_ret
    exact ⟨_,_,rfl,R.out⟩
end Go.Proofs.YtdnindaohpdblaaGreat
