import Derived.Test.YtdnindaohpdblaaGreatSetD
set_option linter.all false
namespace Go.Proofs.YtdnindaohpdblaaGreat
open Go.RowKit Nt
set_option maxRecDepth 20000
set_option maxHeartbeats 16000000
theorem or64 (a b:Nat)(ha:a < 4294967296)(hb:b < 4294967296):bits .or .u64 (a:Int) ((b:Int)*4294967296)=((a+4294967296*b:Nat):Int):=by
 have e:((b:Int)*4294967296)=((b*4294967296:Nat):Int):=by omega
 rw [e,u64_or_nat a (b*4294967296) (by omega) (by omega)]
 have:a ||| b*4294967296=b*4294967296+a:=by
  rw [Nat.or_comm,show (4294967296:Nat)=2 ^ 32 from rfl,← Nat.shiftLeft_eq,zjp (by omega)]
 rw [this]
 omega
theorem ym0 (b:Nat)(hb:b < 4294967296):bits .or .u64 0 (b:Int)=(b:Int):=by
 have:=u64_or_nat 0 b (by omega) (by omega)
 simpa using this
theorem or64' (a b:Nat)(ha:a < 4294967296)(hb:b < 4294967296):bits .or .u64 ((b:Int)*4294967296) (a:Int)=((a+4294967296*b:Nat):Int):=by
 have e:((b:Int)*4294967296)=((b*4294967296:Nat):Int):=by omega
 rw [e,u64_or_nat (b*4294967296) a (by omega) (by omega)]
 have:b*4294967296 ||| a=b*4294967296+a:=by
  rw [show (4294967296:Nat)=2 ^ 32 from rfl,← Nat.shiftLeft_eq,zjp (by omega)]
 rw [this]
 omega
theorem ykx (w:World)(p:Option Addr)(n c:Nat)(xs:List Nat)(h:Sl w p n c xs)(hn:n<=2):
  Calls Tryz.prog 131 #[.slice p n c] w fun e w'=>e=.returned (.int .u64 (val xs:Nat))/\w'=w:=by
 have HX:=hid h
 have hm:=h.max
 have hc:=h.cap
 unfold maxLen at hm
 clear h
 go_enter Tryz.func131,Tryz.ntmps131
 go_wp2
 go_loop [3,7] (fun v i=>∃ (k y:Nat),k<=n/\i=.int .i64 k/\v=.int .u64 y/\Hid (y=val (xs.take k))) (fun _ i=>n-(intOf i).toNat)
 case atStart=>exact ⟨0,0,by omega,rfl,rfl,by simp [Hid,val]⟩
 case round =>
  obtain ⟨k,y,hk,rfl,rfl,HY⟩:=hrel
  by_cases hlt:k < n
  ·obtain ⟨b,o,rfl,hcell⟩:=HX.out.lie k (by rw [HX.out.len]; exact hlt)
   obtain ⟨x,hx⟩:∃ x,xs.getD k 0=x:=⟨_,rfl⟩
   rw [hx] at hcell
   have hxb:x < 4294967296:=by rw [← hx]; exact HX.out.ok.getD k
   have HXK:=hid hx
   have hst:=yau xs k (by rw [HX.out.len]; exact hlt)
   rw [hx] at hst
   have HST:=hid hst
   clear hx hst
   by_cases hk0:k=0
   ·subst hk0
    have hy0:y=0:=by rw [HY.out]; simp [val]
    subst hy0
    simp only [zif] at hcell
    go_wp2
    go_round
    case rel =>
     refine ⟨1,x,by omega,rfl,?_,?_⟩
     ·rw [ym0 x hxb]
     ·have:=HST.out; simp [val] at this; simp [Hid]; omega
    case measure=>simp [intOf]; omega
   ·have hk1:k=1:=by omega
    subst hk1
    have hyb:y < 4294967296:=by
     rw [HY.out]
     have:=yc1 (HX.out.ok.take 1)
     have e:(xs.take 1).length=1:=by simp [HX.out.len]; omega
     rw [e] at this
     simpa using this
    go_wp2
    go_round
    case rel =>
     refine ⟨2,y+4294967296*x,by omega,rfl,?_,?_⟩
     ·rw [or64 y x hyb hxb]
     ·have:=HST.out; rw [← HY.out] at this; simp [Hid]; simpa using this.symm
    case measure=>simp [intOf]; omega
  ·go_wp2
   go_ret
   refine ⟨ydf ?_,rfl⟩
   rw [HY.out,zhg (by rw [HX.out.len]; omega)]
theorem ywp (w:World)(x:Nat)(hx:x < 18446744073709551616):
  Calls Tryz.prog 129 #[.int .u64 x] w fun e w'=>e=.returned (.slice (some ⟨w.heap.size,0,none⟩) (digs x).length 2)/\w'=w.alloc (.cells (U [x % 4294967296,x / 4294967296]).toArray 64):=by
 have hv:val [x % 4294967296,x / 4294967296]=x:=by simp [val]; omega
 have T:=hid (ycz (w.alloc (.cells (U [x % 4294967296,x / 4294967296]).toArray 64)) (some ⟨w.heap.size,0,none⟩) 2 2 (digs x).length [x % 4294967296,x / 4294967296] (by rw [hv]) ⟨rfl,by omega,by unfold maxLen; omega,(fun e=>by cases e),Ok.cons (by omega) (Ok.cons (by omega) Ok.nil),Blk.limbs (heap_alloc_last _ _)⟩)
 have eU:(U [x % 4294967296,x / 4294967296]).toArray=#[.int .u32 ((x:Int) % 4294967296),.int .u32 ((x:Int) / 4294967296)]:=by simp [U]
 rw [eU] at T
 rw [eU]
 clear hv eU
 go_enter Tryz.func129,Tryz.ntmps129
 go_wp2_with fail
 refine T.out.mono ?_
 rintro e w' ⟨rfl,rfl⟩
 go_wp2
 go_ret
 exact ⟨rfl,rfl⟩
theorem ylg (w:World)(x:Nat)(hx:x < 18446744073709551616):
  Calls Tryz.prog 129 #[.int .u64 x] w fun e w'=>∃ r cr,e=.returned (.slice r (digs x).length cr)/\Res w w' r cr x:=by
 refine (ywp w x hx).mono ?_
 rintro e w' ⟨rfl,rfl⟩
 refine ⟨_,_,rfl,Res.row (xs:=[x % 4294967296,x / 4294967296]) ((Below.refl _ _).alloc (zha _) _) (heap_alloc_last _ _) (Ok.cons (by omega) (Ok.cons (by omega) Ok.nil)) (by simp [val]; omega) (zha _) rfl (by unfold maxLen; omega)⟩
theorem yc9 (w:World)(o:Obj)(k:Nat)(h:k < w.heap.size):(w.alloc o).heap[k]? = w.heap[k]?:=Below.heap_alloc w o k h
theorem yzk {w:World}{g x:Nat}{z:Int}(hz:z=x)(h:w.heap[g]? = some (.cells #[.int .u32 z] 64 (0,0))):Blk w g [x]:=by
 subst hz
 exact h
theorem yyz {w:World}{g x:Nat}(h:Blk w g [x])(hx:x < 4294967296):Sl w (some ⟨g,0,none⟩) 1 1 [x]:=⟨rfl,by omega,by unfold maxLen; omega,(fun e=>by cases e),Ok.cons hx Ok.nil,h.limbs⟩
theorem yfb {x:Nat}(h0:x≠0)(hx:x < 4294967296):digs x=[x]:=by
 have:=ysg (xs:=[x]) (Ok.cons hx Ok.nil) (Or.inr (by simpa using h0))
 rwa [ye9] at this
theorem ylf (w:World)(z:Int)(x:Nat)(hz:z=x)(hx:x < 18446744073709551616):
  Calls Tryz.prog 129 #[.int .u64 z] w fun e w'=>∃ r cr,e=.returned (.slice r (digs x).length cr)/\Res w w' r cr x:=by
 subst hz
 exact ylg w x hx
theorem ygs {xs:List Nat}(ho:Ok xs)(h:xs.length<=2):val xs < 18446744073709551616:=by
 have h1:=yc1 ho
 have h2:4294967296 ^ xs.length<=4294967296 ^ 2:=zhp (by omega) h
 omega
def Num (w:World)(p:Option Addr)(n c a:Nat):Prop:=∃ xs,Sl w p n c xs/\val xs=a
theorem Sl.numd {w:World}{p:Option Addr}{n c a:Nat}(h:Sl w p n c (Nt.digs a)):Num w p n c a:=⟨_,h,yaf a⟩
theorem Num.below {w w':World}{p:Option Addr}{n c a:Nat}(h:Num w p n c a)(hb:Below w.heap.size w w'):Num w' p n c a:=by
 obtain ⟨xs,h1,h2⟩:=h
 exact ⟨xs,h1.below hb,h2⟩
theorem Num.dl {w:World}{p:Option Addr}{n c a:Nat}(h:Num w p n c a):(digs a).length<=n:=by
 obtain ⟨xs,h1,rfl⟩:=h
 exact h1.dl
theorem yc3 {a b k:Nat}(h1:(digs a).length<=k)(h2:(digs b).length<=k):(digs (a+b)).length<=k+1:=by
 apply ya1
 have a1:=zhe (ycn a) (zhp (n:=4294967296) (by omega) h1)
 have a2:=zhe (ycn b) (zhp (n:=4294967296) (by omega) h2)
 rw [zhu]
 omega
theorem yaq {a b k l:Nat}(h1:(digs a).length<=k)(h2:(digs b).length<=l):(digs (a*b)).length<=k+l:=by
 apply ya1
 have a1:=zhe (ycn a) (zhp (n:=4294967296) (by omega) h1)
 have a2:=zhe (ycn b) (zhp (n:=4294967296) (by omega) h2)
 rw [zit]
 exact Nat.mul_lt_mul'' a1 a2
theorem zfi (w:World)(p q:Option Addr)(n c m d a b:Nat)(h:Num w p n c a)(h':Num w q m d b)(k:Nat)(hk:n<=k)(hk':m<=k)(hs:k<=70368744177663):
  Calls Tryz.prog 86 #[.slice p n c,.slice q m d] w fun e w'=>∃ r cr,e=.returned (.slice r (digs (a+b)).length cr)/\Res w w' r cr (a+b)/\(digs (a+b)).length<=k+1:=by
 have l1:=h.dl
 have l2:=h'.dl
 obtain ⟨xs,h1,rfl⟩:=h
 obtain ⟨ys,h2,rfl⟩:=h'
 refine (yvr w p q n c m d xs ys h1 h2 (by omega) (by omega)).mono ?_
 rintro e w' ⟨r,cr,rfl,R⟩
 exact ⟨r,cr,rfl,R,yc3 (by omega) (by omega)⟩
theorem zf9 (w:World)(p q:Option Addr)(n c m d a b:Nat)(h:Num w p n c a)(h':Num w q m d b)(k:Nat)(hk:n+m<=k)(hs:k<=70368744177664):
  Calls Tryz.prog 95 #[.slice p n c,.slice q m d] w fun e w'=>∃ r cr,e=.returned (.slice r (digs (a*b)).length cr)/\Res w w' r cr (a*b)/\(digs (a*b)).length<=k:=by
 have l1:=h.dl
 have l2:=h'.dl
 obtain ⟨xs,h1,rfl⟩:=h
 obtain ⟨ys,h2,rfl⟩:=h'
 refine (zdo w p q n c m d xs ys h1 h2 (by omega)).mono ?_
 rintro e w' ⟨r,cr,rfl,R⟩
 exact ⟨r,cr,rfl,R,zhb (yaq l1 l2) hk⟩
theorem yyj (w:World)(p:Option Addr)(n c a:Nat)(h:Num w p n c a)(k:Nat)(hk:n<=k)(hs:k<=70368744177664):
  Calls Tryz.prog 111 #[.slice p n c] w fun e w'=>∃ r cr,e=.returned (.slice r (digs a).length cr)/\Res w w' r cr a/\(digs a).length<=k:=by
 have l1:=h.dl
 obtain ⟨xs,h1,rfl⟩:=h
 refine (ypp w p n c xs h1 (by omega)).mono ?_
 rintro e w' ⟨rfl,rfl⟩
 exact ⟨_,_,rfl,Res.row ((Below.refl _ _).alloc (zha _) _) (heap_alloc_last _ _) (ybo _) (yaf _) (zha _) rfl (by unfold maxLen; omega),by omega⟩
theorem zfr (w:World)(p q:Option Addr)(n c m d a b:Nat)(h:Num w p n c a)(h':Num w q m d b):
  Calls Tryz.prog 100 #[.slice p n c,.slice q m d] w fun e w'=>e=.returned (.int .i64 (cmpN a b))/\∃ nq,w'=w.drewN nq:=by
 obtain ⟨xs,h1,rfl⟩:=h
 obtain ⟨ys,h2,rfl⟩:=h'
 exact yqw w p q n c m d xs ys h1 h2

end Go.Proofs.YtdnindaohpdblaaGreat
