import Derived.Test.YtdnindaohpdblaaGreatSetD
set_option linter.all false
namespace Go.Proofs.YtdnindaohpdblaaGreat
open Go.RowKit Nt
set_option maxRecDepth 20000
set_option maxHeartbeats 16000000
def pad (xs:List Nat)(m:Nat):List Nat:=xs ++ List.replicate (m-xs.length) 0
theorem yd6 {xs:List Nat}{m:Nat}(h:xs.length<=m):(pad xs m).length=m:=by simp [pad]; omega
theorem ylk (xs:List Nat)(m:Nat):val (pad xs m)=val xs:=by rw [pad,yb7,yct]; simp
theorem zd0 {xs:List Nat}(h:Ok xs)(m:Nat):Ok (pad xs m):=h.append (Ok.replicate _)
theorem yhx (xs:List Nat)(m j:Nat):(pad xs m).getD j 0=xs.getD j 0:=by
 unfold pad
 by_cases h:j < xs.length
 ·simp [zhc,zh1 h]
 ·rw [zhc,zhc,zhq (by omega),zim (by omega:xs.length<=j)]
  by_cases h2:j-xs.length < m-xs.length
  ·simp [zi5,h2]
  ·simp [zi5,h2]
theorem ysd {xs ys:List Nat}{m k:Nat}(hx:Ok xs)(lx:xs.length<=m)(ly:ys.length<=m)(hk:k < m)
  (he:∀ j,k < j->j < m->xs.getD j 0=ys.getD j 0) (hlt:xs.getD k 0 < ys.getD k 0):val xs < val ys:=by
 have:=ysb (xs:=pad xs m) (ys:=pad ys m) (by rw [yd6 lx,yd6 ly]) (zd0 hx m) (k:=k) (by rw [yd6 lx]; exact hk)
  (fun j h1 h2=>by rw [yhx,yhx]; exact he j h1 (by rw [yd6 lx] at h2; exact h2)) (by rw [yhx,yhx]; exact hlt)
 rwa [ylk,ylk] at this
theorem yqa {xs ys:List Nat}{m:Nat}(lx:xs.length<=m)(ly:ys.length<=m)(he:∀ j,j < m->xs.getD j 0=ys.getD j 0):val xs=val ys:=by
 have:pad xs m=pad ys m:=by
  apply zjz (by rw [yd6 lx,yd6 ly])
  intro i h1 h2
  have:=he i (by rw [yd6 lx] at h1; exact h1)
  rw [← yhx xs m,← yhx ys m] at this
  simpa [h1,h2] using this
 rw [← ylk xs m,this,ylk]
theorem yid (w:World)(p q:Option Addr)(n c m d:Nat)(xs ys:List Nat)(h:Sl w p n c xs)(h':Sl w q m d ys):
  Calls Tryz.prog 67 #[.slice p n c,.slice q m d] w fun e w'=>e=.returned (.int .i64 (cmpN (val xs) (val ys)))/\w'=w:=by
 have HX:=hid h
 have HY:=hid h'
 have hm:=h.max
 have hc:=h.cap
 have hm':=h'.max
 have hc':=h'.cap
 unfold maxLen at hm hm'
 clear h h'
 obtain ⟨M,hM⟩:∃ M,max n m=M:=⟨_,rfl⟩
 have C:=hid (yum w n m (by omega) (by omega))
 rw [hM] at C
 have hMn:n<=M:=by omega
 have hMm:m<=M:=by omega
 have hMx:M<=9223372036854775807:=by omega
 clear hM
 go_enter Tryz.func67,Tryz.ntmps67
 go_wp2_with fail
 refine C.out.mono ?_
 rintro e w' ⟨rfl,rfl⟩
 go_wp2_with fail
 go_loop [5] (fun i=>∃ k:Nat,k<=M/\i=.int .i64 ((k:Int)-1)/\Hid (∀ j,k<=j->j < M->xs.getD j 0=ys.getD j 0)) (fun i=>(intOf i+1).toNat)
 case atStart=>exact ⟨M,zha _,rfl,fun j h1 h2=>by omega⟩
 case round =>
  obtain ⟨k,hk,rfl,HZ⟩:=hrel
  by_cases hlt:0 < k
  ·obtain ⟨x,hx⟩:∃ x,xs.getD (k-1) 0=x:=⟨_,rfl⟩
   obtain ⟨y,hy⟩:∃ y,ys.getD (k-1) 0=y:=⟨_,rfl⟩
   have L1:=yey w' p n c xs HX.out ((k:Int)-1) (k-1) (by omega)
   have L2:=yey w' q m d ys HY.out ((k:Int)-1) (k-1) (by omega)
   rw [hx] at L1
   rw [hy] at L2
   have HL1:=hid L1
   have HL2:=hid L2
   have HXK:=hid hx
   have HYK:=hid hy
   clear L1 L2 hx hy
   by_cases hxy:x < y
   ·go_wp2_with fail
    refine HL1.out.mono ?_
    rintro e w2 ⟨rfl,rfl⟩
    go_wp2_with fail
    refine HL2.out.mono ?_
    rintro e w2 ⟨rfl,rfl⟩
    go_wp2
    go_ret
    have:=ysd HX.out.ok (by rw [HX.out.len]; exact hMn) (by rw [HY.out.len]; exact hMm) (k:=k-1) (by omega) (fun j h1 h2=>HZ.out j (by omega) h2) (by rw [HXK.out,HYK.out]; exact hxy)
    exact ⟨ydf (by simp [cmpN,this]),rfl⟩
   ·by_cases hyx:y < x
    ·go_wp2_with fail
     refine HL1.out.mono ?_
     rintro e w2 ⟨rfl,rfl⟩
     go_wp2_with fail
     refine HL2.out.mono ?_
     rintro e w2 ⟨rfl,rfl⟩
     go_wp2
     go_ret
     have:=ysd HY.out.ok (by rw [HY.out.len]; exact hMm) (by rw [HX.out.len]; exact hMn) (k:=k-1) (by omega) (fun j h1 h2=>(HZ.out j (by omega) h2).symm) (by rw [HXK.out,HYK.out]; exact hyx)
     have h1:¬ val xs < val ys:=by omega
     have h2:¬ val xs=val ys:=by omega
     exact ⟨ydf (by simp [cmpN,h1,h2]),rfl⟩
    ·have hxe:x=y:=by omega
     subst hxe
     go_wp2_with fail
     refine HL1.out.mono ?_
     rintro e w2 ⟨rfl,rfl⟩
     go_wp2_with fail
     refine HL2.out.mono ?_
     rintro e w2 ⟨rfl,rfl⟩
     go_wp2
     go_round
     case rel =>
      refine ⟨k-1,by omega,by go_num,?_⟩
      intro j h1 h2
      by_cases e:j=k-1
      ·rw [e,HXK.out,HYK.out]
      ·exact HZ.out j (by omega) h2
     case measure=>simp [intOf]; omega
  ·go_wp2
   go_ret
   have:=yqa (m:=M) (by rw [HX.out.len]; exact hMn) (by rw [HY.out.len]; exact hMm) (fun j h2=>HZ.out j (by omega) h2)
   exact ⟨ydf (by simp [cmpN,this]),rfl⟩
theorem yr3 {x:Nat}(h:x≠0):Go.bitLen x=Go.bitLen (x / 2)+1:=by
 obtain ⟨s1,s2⟩:=bitLen_spec (x / 2)
 apply yiw
 ·rw [zhu]; omega
 ·intro _
  rw [ziw]
  by_cases h0:x / 2=0
  ·rw [h0]; simp [Go.bitLen]; omega
  ·have s3:=s2 h0
   have hb:Go.bitLen (x / 2)≠0:=by intro e; rw [e] at s1; simp at s1; exact h0 (by omega)
   have e:Go.bitLen (x / 2)=(Go.bitLen (x / 2)-1)+1:=by omega
   rw [e,zhu]
   omega
theorem yud (w:World)(p:Option Addr)(n c:Nat)(xs:List Nat)(h:Sl w p n c xs)(hs:n<=288230376151711743):
  Calls Tryz.prog 106 #[.slice p n c] w fun e w'=>e=.returned (.int .i64 (Go.bitLen (val xs):Nat))/\w'=w:=by
 have HX:=hid h
 have hm:=h.max
 have hc:=h.cap
 unfold maxLen at hm
 clear h
 go_enter Tryz.func106,Tryz.ntmps106
 go_wp2_with fail
 go_loop [3] (fun i=>∃ k:Nat,k<=n/\i=.int .i64 ((k:Int)-1)/\Hid (∀ j,k<=j->j < n->xs.getD j 0=0)) (fun i=>(intOf i+1).toNat)
 case atStart=>exact ⟨n,zha _,rfl,fun j h1 h2=>by omega⟩
 case round =>
  obtain ⟨k,hk,rfl,HZ⟩:=hrel
  by_cases hlt:0 < k
  ·obtain ⟨b,o,rfl,hcell⟩:=HX.out.lie (k-1) (by rw [HX.out.len]; omega)
   obtain ⟨x,hx⟩:∃ x,xs.getD (k-1) 0=x:=⟨_,rfl⟩
   rw [hx] at hcell
   have hxb:x < 4294967296:=by rw [← hx]; exact HX.out.ok.getD _
   have HXK:=hid hx
   clear hx
   by_cases h0:x=0
   ·subst h0
    go_wp2
    go_round
    case rel =>
     refine ⟨k-1,by omega,by go_num,?_⟩
     intro j h1 h2
     by_cases e:j=k-1
     ·rw [e,HXK.out]
     ·exact HZ.out j (by omega) h2
    case measure=>simp [intOf]; omega
   ·have hne:((x:Int) != 0)=true:=by rw [bne_iff_ne]; omega
    have HT:=hid (yr4 HX.out.ok (k:=k-1) (by rw [HX.out.len]; omega) (fun j h1 h2=>HZ.out j (by omega) (by rw [← HX.out.len]; exact h2)) HXK.out h0)
    obtain ⟨B,hB⟩:∃ B,32*(k-1)+Go.bitLen x=B:=⟨_,rfl⟩
    have hBb:B<=9223372036854775807:=by have:=yk1 hxb; omega
    have HBB:=hid hB
    clear hB
    go_wp2
    go_loop [4,5] (fun v u=>∃ y z:Nat,y < 4294967296/\u=.int .u32 y/\v=.int .i64 z/\z<=B/\Hid (z+Go.bitLen y=B)) (fun _ u=>(intOf u).toNat)
    case atStart=>exact ⟨x,32*(k-1),hxb,rfl,by go_num,by have:=HBB.out; omega,HBB.out⟩
    case round =>
     obtain ⟨y,z,hy,rfl,rfl,hzB,HY⟩:=hrel
     by_cases hy0:y=0
     ·subst hy0
      go_wp2
      go_ret
      refine ⟨ydf ?_,rfl⟩
      rw [HT.out,HBB.out]
      have:=HY.out
      simp [Go.bitLen] at this
      omega
     ·have hz1:z+1<=B:=by have:=HY.out; rw [yr3 hy0] at this; omega
      have hyp:0 < y:=by omega
      go_wp2
      go_round
      case rel=>exact ⟨y / 2,z+1,by omega,by go_num,by go_num,by omega,by have:=HY.out; rw [yr3 hy0] at this; unfold Hid; omega⟩
      case measure=>simp [intOf]; omega
  ·go_wp2
   go_ret
   have hv:val xs=0:=by
    have:=yqa (xs:=xs) (ys:=[]) (m:=n) (by rw [HX.out.len]; exact zha _) (by simp) (fun j h2=>by rw [HZ.out j (by omega) h2]; simp)
    rw [this]; rfl
   exact ⟨ydf (by rw [hv]; rfl),rfl⟩
theorem ydh (xs:List Nat)(k:Nat):val (xs.take (k+1))=val (xs.take k)+4294967296 ^ k*xs.getD k 0:=by
 by_cases h:k < xs.length
 ·exact yau xs k h
 ·rw [zhg (by omega),zhg (by omega),zhc,zim (by omega)]
  simp
theorem zd9 (w:World)(p q:Option Addr)(n c m d:Nat)(xs ys:List Nat)(h:Sl w p n c xs)(h':Sl w q m d ys)(hs:n<=35184372088831)(hs':m<=35184372088831):
  Calls Tryz.prog 66 #[.slice p n c,.slice q m d] w fun e w'=>∃ r cr,e=.returned (.slice r (digs (val xs+val ys)).length cr)/\Ans w w' r cr (val xs+val ys):=by
 have HX:=hid h
 have HY:=hid h'
 have hm:=h.max
 have hc:=h.cap
 have hm':=h'.max
 have hc':=h'.cap
 unfold maxLen at hm hm'
 clear h h'
 obtain ⟨M,hM⟩:∃ M,max n m=M:=⟨_,rfl⟩
 have C:Hid (∀ W:World,Calls Tryz.prog 90 #[.int .i64 n,.int .i64 m] W fun e w'=>e=.returned (.int .i64 (M:Nat))/\w'=W):=by
  intro W
  have:=yum W n m (by omega) (by omega)
  rw [hM] at this
  exact this
 have hMn:n<=M:=by omega
 have hMm:m<=M:=by omega
 have hMx:M<=35184372088831:=by omega
 clear hM
 go_enter Tryz.func66,Tryz.ntmps66
 go_wp2_with fail
 go_loopw [5,6,7] (fun v cv i wr=>∃ k cy:Nat,k<=M/\i=.int .i64 k/\cv=.int .u64 cy/\cy<=1/\∃ Z:List Nat,Hid (Z.length=k/\Ok Z/\val Z+4294967296 ^ k*cy=val (xs.take k)+val (ys.take k)/\Own wr w.heap.size v Z/\Below w.heap.size w wr)) (fun _ _ i _=>M-(intOf i).toNat)
 case atStart=>exact ⟨0,0,zhs _,rfl,rfl,by omega,[],rfl,Ok.nil,rfl,Own.nil _ _,Below.refl _ _⟩
 case round =>
  obtain ⟨k,cy,hk,rfl,rfl,hcy,Z,HZ⟩:=hrel
  by_cases hlt:k < M
  ·obtain ⟨x,hx⟩:∃ x,xs.getD k 0=x:=⟨_,rfl⟩
   obtain ⟨y,hy⟩:∃ y,ys.getD k 0=y:=⟨_,rfl⟩
   have hxb:x < 4294967296:=by rw [← hx]; exact HX.out.ok.getD k
   have hyb:y < 4294967296:=by rw [← hy]; exact HY.out.ok.getD k
   have L1:=yey wr p n c xs (HX.out.below HZ.out.2.2.2.2) (k:Int) k rfl
   have L2:=yey wr q m d ys (HY.out.below HZ.out.2.2.2.2) (k:Int) k rfl
   rw [hx] at L1
   rw [hy] at L2
   have HL1:=hid L1
   have HL2:=hid L2
   have HXK:=hid hx
   have HYK:=hid hy
   clear L1 L2 hx hy
   go_wp2_with fail
   refine (C.out _).mono ?_
   rintro e w1 ⟨rfl,rfl⟩
   go_wp2_with fail
   refine HL1.out.mono ?_
   rintro e w1 ⟨rfl,rfl⟩
   go_wp2_with fail
   refine HL2.out.mono ?_
   rintro e w1 ⟨rfl,rfl⟩
   obtain ⟨h1,h2,h3,h4,h5⟩:=HZ.out
   have HOW:=hid h4
   have HBE:=hid h5
   have hzl:Z.length=k:=h1
   clear h1 h2 h3 h4 h5
   go_wp2_with (at_builtin; refine yds _ rfl (.tmp 26) (.tmp 30) rfl w.heap.size _ Z rfl (HOW.out.alloc _) ⟨w1.heap.size,0,none⟩ 1 1 [(cy+x+y) % 4294967296] rfl rfl (ydl w1 _ (by omega)) (by omega) (by have:=HBE.out.size; simp; omega) ?_; intro v' w2 hown' hbel; have HN:=hid hown'; have HNB:=hid ((HBE.out.alloc HBE.out.size _).trans hbel); clear hown' hbel)
   go_roundw
   case rel =>
    obtain ⟨h1,h2,h3,h4,h5⟩:=HZ.out
    refine ⟨k+1,(cy+x+y) / 4294967296,by omega,by go_num,by go_num,by omega,Z ++ [(cy+x+y) % 4294967296],by simp [h1],h2.snoc (by omega),?_,HN.out,HNB.out⟩
    rw [yci,h1,ydh xs k,ydh ys k,zhu,HXK.out,HYK.out]
    have:=yht (t:=x+y) (z:=(cy+x+y) % 4294967296) (cy':=(cy+x+y) / 4294967296) h3 (by omega)
    rw [this,zht]
    omega
   case measure=>simp [intOf]; omega
  ·obtain ⟨h1,h2,h3,h4,h5⟩:=HZ.out
   have HOW:=hid h4
   have HBE:=hid h5
   have hzl:Z.length=k:=h1
   have hkM:k=M:=by omega
   have HKM:=hid hkM
   clear h1 h2 h3 h4 h5 hkM
   have hval:Hid (Ok (Z ++ [cy])/\val (Z ++ [cy])=val xs+val ys):=by
    obtain ⟨h1,h2,h3,h4,h5⟩:=HZ.out
    refine ⟨h2.snoc (by omega),?_⟩
    rw [yci,h1,h3,zhg (by rw [HX.out.len]; omega),zhg (by rw [HY.out.len]; omega)]
   go_wp2_with (first
    | (go_at_call 90; refine (C.out _).mono ?_; rintro e w1 ⟨rfl,rfl⟩)
    | (at_builtin; refine yds _ rfl (.tmp 34) (.tmp 37) rfl w.heap.size _ Z rfl (HOW.out.alloc _) ⟨World.heap _ |>.size,0,none⟩ 1 1 [cy] rfl rfl (ydl _ _ rfl) (by omega) (by have:=HBE.out.size; simp; omega) ?_; intro v' w2 hown' hbel; obtain ⟨r,cr,rfl,hsl⟩:=hown'.sl hval.out.1; have HSL:=hid hsl; have HNB:=hid ((HBE.out.alloc HBE.out.size _).trans hbel); clear hown' hbel hsl)
    | (go_at_call 59; fail))
   have HS2:Hid (Sl w2 r (k+1) cr (Z ++ [cy])):=by have:=HSL.out; rw [show (Z ++ [cy]).length=k+1 from by simp [hzl]] at this; exact this
   refine (yd1 _ r (k+1) cr (Z ++ [cy]) HS2.out (by omega)).mono ?_
   rintro e w3 ⟨r3,c3,rfl,A3⟩
   rw [hval.out.2] at A3 ⊢
   have HA:=hid (A3.since HNB.out)
   clear A3
   go_wp2
   go_ret
   exact ⟨r3,c3,rfl,HA.out⟩
theorem yxc {ys:List Nat}{n:Nat}(h:val ys < 4294967296 ^ n):val (ys.take n)=val ys:=by
 by_cases hn:n<=ys.length
 ·have e:=yck ys n hn
  have hz:val (ys.drop n)=0:=by
   apply Classical.byContradiction
   intro hne
   have:4294967296 ^ n*1<=4294967296 ^ n*val (ys.drop n):=zhm _ (by omega)
   omega
  rw [hz,zin,zif] at e
  exact e.symm
 ·rw [zhg (by omega)]
theorem yjm (w:World)(p q:Option Addr)(n c m d:Nat)(xs ys:List Nat)(h:Sl w p n c xs)(h':Sl w q m d ys)(hs:n<=35184372088832)(hle:val ys<=val xs):
  Calls Tryz.prog 92 #[.slice p n c,.slice q m d] w fun e w'=>∃ r cr,e=.returned (.slice r (digs (val xs-val ys)).length cr)/\Ans w w' r cr (val xs-val ys):=by
 have HX:=hid h
 have HY:=hid h'
 have HLE:=hid hle
 have hm:=h.max
 have hc:=h.cap
 unfold maxLen at hm
 clear h h' hle
 go_enter Tryz.func92,Tryz.ntmps92
 go_wp2_with fail
 go_loopw [5,6,7] (fun v cv i wr=>∃ k cy:Nat,k<=n/\i=.int .i64 k/\cv=.int .u64 cy/\cy<=1/\∃ Z:List Nat,Hid (Z.length=k/\Ok Z/\val Z+val (ys.take k)=val (xs.take k)+4294967296 ^ k*cy/\Own wr w.heap.size v Z/\Below w.heap.size w wr)) (fun _ _ i _=>n-(intOf i).toNat)
 case atStart=>exact ⟨0,0,zhs _,rfl,rfl,by omega,[],rfl,Ok.nil,rfl,Own.nil _ _,Below.refl _ _⟩
 case round =>
  obtain ⟨k,cy,hk,rfl,rfl,hcy,Z,HZ⟩:=hrel
  by_cases hlt:k < n
  ·obtain ⟨x,hx⟩:∃ x,xs.getD k 0=x:=⟨_,rfl⟩
   obtain ⟨y,hy⟩:∃ y,ys.getD k 0=y:=⟨_,rfl⟩
   have hxb:x < 4294967296:=by rw [← hx]; exact HX.out.ok.getD k
   have hyb:y < 4294967296:=by rw [← hy]; exact HY.out.ok.getD k
   have L1:=yey wr p n c xs (HX.out.below HZ.out.2.2.2.2) (k:Int) k rfl
   have L2:=yey wr q m d ys (HY.out.below HZ.out.2.2.2.2) (k:Int) k rfl
   rw [hx] at L1
   rw [hy] at L2
   have HL1:=hid L1
   have HL2:=hid L2
   have HXK:=hid hx
   have HYK:=hid hy
   have HOW:=hid HZ.out.2.2.2.1
   have HBE:=hid HZ.out.2.2.2.2
   have hzl:Z.length=k:=HZ.out.1
   clear L1 L2 hx hy
   by_cases hb:x < y+cy
   ·go_wp2_with fail
    refine HL1.out.mono ?_
    rintro e w1 ⟨rfl,rfl⟩
    go_wp2_with fail
    refine HL2.out.mono ?_
    rintro e w1 ⟨rfl,rfl⟩
    go_wp2_with (at_builtin; refine yds _ rfl (.tmp 29) (.tmp 34) rfl w.heap.size _ Z rfl (HOW.out.alloc _) ⟨w1.heap.size,0,none⟩ 1 1 [x+4294967296-(y+cy)] rfl rfl (ydl w1 _ (by omega)) (by omega) (by have:=HBE.out.size; simp; omega) ?_; intro v' w2 hown' hbel; have HN:=hid hown'; have HNB:=hid ((HBE.out.alloc HBE.out.size _).trans hbel); clear hown' hbel)
    go_roundw
    case rel =>
     obtain ⟨h1,h2,h3,h4,h5⟩:=HZ.out
     refine ⟨k+1,1,by omega,by go_num,by go_num,by omega,Z ++ [x+4294967296-(y+cy)],by simp [h1],h2.snoc (by omega),?_,HN.out,HNB.out⟩
     rw [yci,h1,ydh xs k,ydh ys k,zhu,HXK.out,HYK.out]
     exact yfp h3 (by omega)
    case measure=>simp [intOf]; omega
   ·go_wp2_with fail
    refine HL1.out.mono ?_
    rintro e w1 ⟨rfl,rfl⟩
    go_wp2_with fail
    refine HL2.out.mono ?_
    rintro e w1 ⟨rfl,rfl⟩
    go_wp2_with (at_builtin; refine yds _ rfl (.tmp 29) (.tmp 34) rfl w.heap.size _ Z rfl (HOW.out.alloc _) ⟨w1.heap.size,0,none⟩ 1 1 [x-(y+cy)] rfl rfl (ydl w1 _ (by omega)) (by omega) (by have:=HBE.out.size; simp; omega) ?_; intro v' w2 hown' hbel; have HN:=hid hown'; have HNB:=hid ((HBE.out.alloc HBE.out.size _).trans hbel); clear hown' hbel)
    go_roundw
    case rel =>
     obtain ⟨h1,h2,h3,h4,h5⟩:=HZ.out
     refine ⟨k+1,0,by omega,by go_num,by go_num,by omega,Z ++ [x-(y+cy)],by simp [h1],h2.snoc (by omega),?_,HN.out,HNB.out⟩
     rw [yci,h1,ydh xs k,ydh ys k,zhu,HXK.out,HYK.out]
     exact yfp h3 (by omega)
    case measure=>simp [intOf]; omega
  ·have hkn:k=n:=by omega
   have hval:Hid (val Z=val xs-val ys):=by
    obtain ⟨h1,h2,h3,h4,h5⟩:=HZ.out
    have hx:=yc1 HX.out.ok
    rw [HX.out.len] at hx
    have hy:val ys < 4294967296 ^ n:=zij HLE.out hx
    rw [hkn,yxc hy,zhg (by rw [HX.out.len]; exact zha _)] at h3
    have hzlt:=yc1 h2
    rw [h1,hkn] at hzlt
    have hle:=HLE.out
    have hc0:cy=0:=by
     apply Classical.byContradiction
     intro hne
     have:4294967296 ^ n*1<=4294967296 ^ n*cy:=zhm _ (by omega)
     omega
    rw [hc0,zin] at h3
    unfold Hid
    omega
   obtain ⟨r,cr,hv,hsl⟩:=HZ.out.2.2.2.1.sl HZ.out.2.1
   rw [HZ.out.1,hkn] at hv hsl
   subst hv
   have HSL:=hid hsl
   have HBE:=hid HZ.out.2.2.2.2
   have HKN:=hid hkn
   clear hsl hkn
   go_wp2_with fail
   refine (yd1 _ r n cr Z HSL.out (by omega)).mono ?_
   rintro e w3 ⟨r3,c3,rfl,A3⟩
   rw [hval.out] at A3 ⊢
   have HA:=hid (A3.since HBE.out)
   clear A3
   go_wp2
   go_ret
   exact ⟨r3,c3,rfl,HA.out⟩
theorem yyq (w:World)(p q:Option Addr)(n c m d:Nat)(xs ys:List Nat)(h:Sl w p n c xs)(h':Sl w q m d ys)(hs:n<=35184372088832)(hle:val ys<=val xs):
  Calls Tryz.prog 68 #[.slice p n c,.slice q m d] w fun e w'=>∃ r cr,e=.returned (.tuple #[.slice r (digs (val xs-val ys)).length cr,.int .i64 0])/\Ans w w' r cr (val xs-val ys):=by
 have C:=hid (yid w p q n c m d xs ys h h')
 have hcv0:0<=cmpN (val xs) (val ys):=by
  unfold cmpN
  have h1:¬ val xs < val ys:=by omega
  by_cases e:val xs=val ys <;> simp [h1,e]
 generalize cmpN (val xs) (val ys)=cv at *
 have L:=hid (yjm w p q n c m d xs ys h h' hs hle)
 clear h h' hs hle
 go_enter Tryz.func68,Tryz.ntmps68
 go_wp2_with fail
 refine C.out.mono ?_
 rintro e w1 ⟨rfl,rfl⟩
 go_wp2_with fail
 refine L.out.mono ?_
 rintro e w2 ⟨r,cr,rfl,A⟩
 have HA:=hid A
 clear A
 go_wp2
 go_ret2
 exact ⟨r,cr,rfl,HA.out⟩
theorem yu3 (w:World)(p q:Option Addr)(n c m d:Nat)(xs ys:List Nat)(h:Sl w p n c xs)(h':Sl w q m d ys)(hlt:val xs < val ys):
  Calls Tryz.prog 87 #[.slice p n c,.slice q m d] w fun e w'=>e=.returned (.tuple #[.slice none 0 0,.int .i64 10])/\∃ nq,w'=w.drewN nq:=by
 have C:=yqw w p q n c m d xs ys h h'
 have e:cmpN (val xs) (val ys)=-1:=by simp [cmpN,hlt]
 rw [e] at C
 have HC:=hid C
 clear C e h h' hlt
 go_enter Tryz.func87,Tryz.ntmps87
 go_wp2_with fail
 refine HC.out.mono ?_
 rintro e w' ⟨rfl,nq,rfl⟩
 go_wp2
 go_ret2
 exact ⟨rfl,dr1 _ _⟩
theorem yun {A B R mid':List Nat}{k lb cy a:Nat}(hk:k < A.length)(hR:R.length=k+lb)(ha:A.getD k 0=a)(hm:mid'.length=lb)
  (hv:val R=val (A.take k)*val B) (hz:val mid'+4294967296 ^ lb*cy=val (R.drop k)+val B*a):val (R.take k ++ mid' ++ [cy])=val (A.take (k+1))*val B:=by
 have e1:=yck R k (by omega)
 have e2:(R.take k).length=k:=by simp; omega
 rw [yau A k hk,ha,zhv,← hv,e1,yb7,yb7,ye9,zhx,e2,hm,zit]
 have h2:4294967296 ^ k*(val mid'+4294967296 ^ lb*cy)=4294967296 ^ k*(val (R.drop k)+val B*a):=by rw [hz]
 rw [zht,zht,← zhk] at h2
 have h3:4294967296 ^ k*a*val B=4294967296 ^ k*(val B*a):=by rw [zhk,zhd a]
 rw [h3]
 omega
theorem yni (w:World)(p q:Option Addr)(n c m d:Nat)(xs ys:List Nat)(h:Sl w p n c xs)(h':Sl w q m d ys)(hs:n+m<=35184372088832):
  Calls Tryz.prog 103 #[.slice p n c,.slice q m d] w fun e w'=>∃ r cr,e=.returned (.slice r (digs (val xs*val ys)).length cr)/\Ans w w' r cr (val xs*val ys):=by
 have HX:=hid h
 have HY:=hid h'
 have hm:=h.max
 have hc:=h.cap
 have hm':=h'.max
 have hc':=h'.cap
 unfold maxLen at hm hm'
 have M:∀ W:World,(Instr.makeSlice 22 (.int .i64 ((n:Int)+m)) (.int .i64 ((n:Int)+m))).run Tryz.prog W=.ok (.slice (some ⟨W.heap.size,0,none⟩) (n+m) (n+m)) (W.alloc (.cells (U (List.replicate (n+m) 0)).toArray 64)):=by
  have:=ydk (n+m) (by omega)
  rw [zjx] at this
  exact this
 clear h h'
 go_enter Tryz.func103,Tryz.ntmps103
 go_wp2_with fail
 obtain ⟨W,hW⟩:∃ W,W=w.alloc (.cells (U (List.replicate (n+m) 0)).toArray 64):=⟨_,rfl⟩
 have HB:=hid (show Below w.heap.size w W from by rw [hW]; exact (Below.refl _ _).alloc (zha _) _)
 have HG:=hid (show Blk W w.heap.size (List.replicate (n+m) 0) from by rw [hW]; exact heap_alloc_last _ _)
 rw [← hW]
 clear hW M
 obtain ⟨g,hg⟩:∃ g,g=w.heap.size:=⟨_,rfl⟩
 rw [← hg] at HG ⊢
 have HGE:=hid hg
 clear hg
 go_loopw [6] (fun i wr=>∃ k:Nat,k<=n/\i=.int .i64 k/\∃ R:List Nat,Hid (R.length=k+m/\Ok R/\val R=val (xs.take k)*val ys/\Wr W g (R ++ List.replicate (n-k) 0) wr)) (fun i _=>n-(intOf i).toNat)
 case atStart =>
  refine ⟨0,zhs _,rfl,List.replicate m 0,by simp,Ok.replicate _,by simp [val,yct],?_⟩
  have:=Wr.refl HG.out
  rw [zkc,zj4,zjt m n]
  exact this
 case round =>
  obtain ⟨k,hk,rfl,R,HR⟩:=hrel
  by_cases hlt:k < n
  ·obtain ⟨f,hf⟩:∃ f,xs.getD k 0=f:=⟨_,rfl⟩
   have hfb:f < 4294967296:=by rw [← hf]; exact HX.out.ok.getD k
   have HF:=hid hf
   clear hf
   obtain ⟨Wk,hWk⟩:∃ Wk,Wk=wr:=⟨_,rfl⟩
   rw [← hWk]
   have HRW:Hid (Wr W g (R ++ List.replicate (n-k) 0) Wk):=by rw [hWk]; exact HR.out.2.2.2
   clear hWk
   have hRl:R.length=k+m:=HR.out.1
   go_wp2_with fail
   go_loopw [7,8] (fun cv i wr=>∃ (j cy:Nat),j<=m/\i=.int .i64 j/\cy < 4294967296/\cv=.int .u64 cy/\∃ Z:List Nat,Hid (Z.length=j/\Ok Z/\val Z+4294967296 ^ j*cy=val ((R.drop k).take j)+val (ys.take j)*f/\Wr W g (R.take k ++ (Z ++ (R.drop k).drop j) ++ List.replicate (n-k) 0) wr)) (fun _ i _=>m-(intOf i).toNat)
   case atStart=>exact ⟨0,0,zhs _,rfl,by omega,rfl,[],rfl,Ok.nil,by simp [val],by simpa using HRW.out⟩
   case round =>
    obtain ⟨j,cy,hj,rfl,hcy,rfl,Z,HZ⟩:=hrel
    by_cases hjm:j < m
    ·have etk:(R.take k).length=k:=by simp; omega
     have hdl:(R.drop k).length=m:=by simp; omega
     obtain ⟨b1,o1,e1,hcf⟩:=HZ.out.2.2.2.limbs (HX.out.below HB.out).lie (HX.out.apart (by rw [HGE.out]; exact zha _)) k (by rw [HX.out.len]; exact hlt)
     rw [HF.out] at hcf
     obtain ⟨b2,o2,e2,hcy2⟩:=HZ.out.2.2.2.limbs (HY.out.below HB.out).lie (HY.out.apart (by rw [HGE.out]; exact zha _)) j (by rw [HY.out.len]; exact hjm)
     obtain ⟨y,hy⟩:∃ y,ys.getD j 0=y:=⟨_,rfl⟩
     rw [hy] at hcy2
     have hyb:y < 4294967296:=by rw [← hy]; exact HY.out.ok.getD j
     have hcell:=(Wr.blk HG.out HZ.out.2.2.2).cell (k+j) (by have:=HZ.out.1; simp; omega)
     have hfz:=(Wr.blk HG.out HZ.out.2.2.2).frozen (k+j)
     have hmg:=yga (R.take k) Z (R.drop k) (List.replicate (n-k) 0) j HZ.out.1 (by rw [hdl]; exact hjm)
     rw [etk] at hmg
     rw [hmg] at hcell
     obtain ⟨x,hx⟩:∃ x,(R.drop k).getD j 0=x:=⟨_,rfl⟩
     rw [hx] at hcell
     have hxb:x < 4294967296:=by rw [← hx]; exact (HR.out.2.1.drop k).getD j
     have hyf:f*y<=18446744065119617025:=by
      have h1:f*y<=4294967295*4294967295:=ziz (by omega) (by omega)
      omega
     have hyf':(f:Int)*(y:Int)<=18446744065119617025:=by rw [← zho]; omega
     have hyf0:0<=(f:Int)*(y:Int):=by rw [← zho]; omega
     have HYF:=hid hyf
     have HX2:=hid hx
     have HY2:=hid hy
     have HDL:=hid hdl
     have HETK:=hid etk
     subst e1
     subst e2
     clear hx hy hyf hmg hdl etk
     go_wp2_with fail
     go_quiet (fail)
     go_wp2
     go_roundw
     case rel =>
      obtain ⟨hz1,hz2,hz3,hz4⟩:=HZ.out
      have hyf:=HYF.out
      have e0:(cy:Int)+(x:Int)+(f:Int)*(y:Int)=((cy+(x+y*f):Nat):Int):=by rw [zhd y f]; simp; omega
      rw [e0]
      have hyf2:y*f<=18446744065119617025:=by rw [zhd]; exact hyf
      refine ⟨j+1,(cy+(x+y*f)) / 4294967296,by omega,by go_num,by omega,by rw [zj1]; rfl,Z ++ [(cy+(x+y*f)) % 4294967296],by simp [hz1],hz2.snoc (by omega),?_,?_⟩
      ·rw [yci,hz1,yau (R.drop k) j (by rw [HDL.out]; omega),yau ys j (by rw [HY.out.len]; omega),zhu,HX2.out,HY2.out]
       exact ykv hz3 (by omega)
      ·exact Wr.next' HG.out hz1 (by rw [HDL.out]; omega) (hz4.drewN nq) (by rw [HETK.out]) (by rw [Int.natCast_emod]; rfl)
     case measure=>simp [intOf]; omega
    ·have hjm':j=m:=by omega
     have hfull:Wr W g (R.take k ++ Z ++ List.replicate (n-k) 0) wr:=by
      have:=HZ.out.2.2.2
      rw [ziu (l:=R.drop k) (by simp; omega),zhz] at this
      exact this
     have hbk2:=Wr.blk HG.out hfull
     have hlen:(R.take k ++ Z ++ List.replicate (n-k) 0).length=n+m:=by have:=HZ.out.1; simp; omega
     have hc2:=hbk2.cell (k+m) (by rw [hlen]; omega)
     have hf2:=hbk2.frozen (k+m)
     obtain ⟨v0,hv0⟩:∃ v0,(R.take k ++ Z ++ List.replicate (n-k) 0).getD (k+m) 0=v0:=⟨_,rfl⟩
     rw [hv0] at hc2
     have HFULL:=hid hfull
     have HJM:=hid hjm'
     clear hbk2 hlen hv0 hfull hjm'
     go_wp2
     go_roundw
     case rel =>
      obtain ⟨z1,z2,z3,z4⟩:=HZ.out
      obtain ⟨r1,r2,r3,r4⟩:=HR.out
      rw [HJM.out] at z1 z3
      rw [zhg (l:=R.drop k) (by simp; omega),zhg (l:=ys) (by rw [HY.out.len]; exact zha _)] at z3
      refine ⟨k+1,by omega,by go_num,R.take k ++ Z ++ [cy],?_,?_,?_,?_⟩
      ·simp [z1]; omega
      ·exact ((r2.take k).append z2).snoc hcy
      ·exact yun (by rw [HX.out.len]; exact hlt) r1 HF.out z1 r3 z3
      ·have:=Wr.next' (pre:=R.take k ++ Z) (zs:=[]) (A:=List.replicate (n-k) 0) (post:=[]) (k:=0) (i:=k+m) (v:=(cy:Int)) (z:=cy) HG.out rfl (by simp; omega) (by simpa using HFULL.out) (by simp [z1]; omega) rfl
       simp only [zh8,zhz,List.drop_replicate,zig] at this
       rw [show n-(k+1)=n-k-1 from by omega]
       simpa [zhr] using this
     case measure=>simp [intOf]; omega
  ·obtain ⟨r1,r2,r3,r4⟩:=HR.out
   have hkn:k=n:=by omega
   rw [hkn,zio,zjk,zhz] at r4
   rw [hkn,zhg (by rw [HX.out.len]; exact zha _)] at r3
   rw [hkn] at r1
   have hblk:=Wr.blk HG.out r4
   have HS:=hid (show Sl wr (some ⟨g,0,none⟩) (n+m) (n+m) R from ⟨r1,zha _,by unfold maxLen; omega,(fun e=>by cases e),r2,hblk.limbs⟩)
   have HBE:=hid (r4.below HB.out (by rw [HGE.out]; exact zha _))
   have HV:=hid r3
   clear r1 r2 r3 r4 hblk hkn
   go_wp2_with fail
   refine (yd1 _ (some ⟨g,0,none⟩) (n+m) (n+m) R HS.out (by omega)).mono ?_
   rintro e w3 ⟨r3,c3,rfl,A3⟩
   rw [HV.out] at A3 ⊢
   have HA:=hid (A3.since HBE.out)
   clear A3
   go_wp2
   go_ret
   exact ⟨r3,c3,rfl,HA.out⟩
end Go.Proofs.YtdnindaohpdblaaGreat
