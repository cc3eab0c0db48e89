import Derived.Test.YtdnindaohpdblaaGreatVcA
set_option linter.all false
namespace Go.Proofs.YtdnindaohpdblaaGreat
open Go Go.RowKit Nt
set_option maxRecDepth 20000
set_option maxHeartbeats 16000000
theorem yqb {α:Type}{xs:List α}{n k:Nat}{x z:α}(hn:xs.length=n)(hk:xs[k]? = some x):(xs.take k ++ List.replicate (n-k) z).set k x=xs.take (k+1) ++ List.replicate (n-(k+1)) z:=by
 have hlt:=(zhh.1 hk).1
 have e:n-k=(n-(k+1))+1:=by omega
 rw [e,zky,zke,hk,zi9 _ _ (by simp; omega),zh6,ziq (by omega),zio]
 simp
theorem ypc {α:Type}{xs:List α}{n k:Nat}{z:α}(hn:xs.length=n)(hk:n=k):xs.take k ++ List.replicate (n-k) z=xs:=by
 subst hk
 rw [zio,zhg (by omega)]
 simp
def sumZ:List Int->Int
 | []=>0
 | x :: r=>x+sumZ r
theorem yjt (a b:List Int):sumZ (a ++ b)=sumZ a+sumZ b:=by
 induction a with
 | nil=>simp [sumZ]
 | cons x r ih=>simp only [zjy,sumZ,ih]; omega
theorem yns {l:List Int}{k:Nat}{x:Int}(h:l[k]? = some x):sumZ (l.take (k+1))=sumZ (l.take k)+x:=by
 rw [zke,h,yjt]
 simp [sumZ]
theorem yl9 {l:List Int}{m:Nat}(h:Dl l m)(k:Nat):(digs (sumZ (l.take k)).natAbs).length<=m+k:=by
 induction k with
 | zero=>rw [show sumZ (l.take 0)=0 from rfl,show (digs (0:Int).natAbs)=[] from yc8]; exact zhs _
 | succ k ih =>
  cases hx:l[k]? with
  | none =>
   rw [zke,hx]
   simp only [Option.toList,zhz]
   omega
  | some x =>
   rw [yns hx]
   exact yj7 ih (zhb (h k x hx) (Nat.le_add_right _ _))
def zEl (z:Int):El:=⟨ng z,none,(digs z.natAbs).length,0,digs z.natAbs⟩
theorem zg6 (z:Int):(zEl z).z=z:=by simp only [zEl,El.z]; rw [yaf,yh1]
theorem ze2 (zs:List Int)(k:Nat):tot (zs.map zEl) k=sumZ (zs.take k):=by
 induction k with
 | zero=>rfl
 | succ k ih =>
  show tot _ k+_=_
  rw [ih,zhi]
  cases hx:zs[k]? with
  | none =>
   rw [zke,hx]
   simp
  | some x =>
   rw [yns hx]
   simp [zg6]
theorem zg4 {n lo:Nat}{zs:List Int}:∀ v w,VN n zs lo v w->Lc (zs.map zEl) n v w:=by
 rintro v w ⟨⟨p,c,rfl,hl,⟨h1,h2,h3⟩,ha⟩,_⟩
 have hl':zs.length=n:=by simpa using hl
 have each:∀ i,∃ f:El,∀ z,zs[i]? = some z->(∃ b o,p=some ⟨b,o,none⟩/\w.cell? ⟨b,o+2*i,none⟩=some (.bool f.s)/\w.cell? ⟨b,o+2*i+1,none⟩=some (.slice f.p f.n f.c)/\Sl w f.p f.n f.c f.xs)/\f.s=(zEl z).s/\f.n=(zEl z).n/\f.xs=(zEl z).xs:=fun i=>by
  cases hz:zs[i]? with
  | none=>exact ⟨default,fun z h=>by cases h⟩
  | some z =>
   obtain ⟨b,o,u,e1,e2,e3,r,c',e4,e5,e6⟩:=ha i (ZN z lo) (by rw [zhi,zhi,hz]; rfl)
   refine ⟨⟨ng z,r,(digs z.natAbs).length,c',digs z.natAbs⟩,fun z' h'=>?_⟩
   cases h'
   subst e4
   exact ⟨⟨b,o,e1,e2 0 _ rfl,e2 1 _ rfl,e5⟩,rfl,rfl,rfl⟩
 obtain ⟨F,hch⟩:∃ F:Nat->El,∀ (i:Nat) (z:Int),zs[i]? = some z->(∃ b o,p=some ⟨b,o,none⟩/\w.cell? ⟨b,o+2*i,none⟩=some (.bool (F i).s)/\w.cell? ⟨b,o+2*i+1,none⟩=some (.slice (F i).p (F i).n (F i).c)/\Sl w (F i).p (F i).n (F i).c (F i).xs)/\(F i).s=(zEl z).s/\(F i).n=(zEl z).n/\(F i).xs=(zEl z).xs:=⟨fun i=>Classical.choose (each i),fun i=>zja (each i)⟩
 refine ⟨p,c,(List.range n).map F,rfl,⟨by simp,h1,h2,h3,fun i e he=>?_⟩,by simp [hl'],fun i f e hf he=>?_⟩
 ·obtain ⟨j,hj,rfl⟩:=ybs he
  have hi:i < n:=by simpa using (zhh.1 hj).1
  rw [zh5 hi] at hj
  cases hj
  exact (hch i _ (zhj (by omega:i < zs.length))).1
 ·obtain ⟨j,hj,rfl⟩:=ybs hf
  have hi:i < n:=by simpa using (zhh.1 hj).1
  rw [zh5 hi] at hj
  cases hj
  obtain ⟨z,hz,rfl⟩:=ybs he
  exact (hch i z hz).2
theorem yxs {A:Int}{k:Nat}{u:Value}{w:World}(h:Zv A k u w):(digs A.natAbs).length<=k:=by
 obtain ⟨s,p,n,c,xs,rfl,hs,rfl,hn⟩:=h
 exact zhb (yj0 hs) hn
theorem yie {n k:Nat}{zs:List Int}{u:Value}{w:World}(h:Vv n zs k u w):Dl zs k:=fun i z hz=>by
 obtain ⟨p,c,_,_,_,ha⟩:=h
 obtain ⟨b,o,x,_,_,_,hx⟩:=ha i _ (ye0 (fun z=>Zv z k) hz)
 exact yxs hx
theorem zfh (w:World)(u:Value)(es:List El)(n:Nat)(h:Lc es n u w)(hn:n<=1048576)(hB:∀ (i:Nat) (e:El),es[i]? = some e->e.n<=1073741824):
  CG 127 #[u] w (ZN (tot es n)):=by
 refine yak (sl:=[(0,(Lc es n))]) Tryz.func127 rfl Tryz.ntmps127 (by simp) (yae rfl (zdd h) yao) ?_
 intro a0 S0
 refine wq [.new (.box 24 zI)] [.inl 0] [.inr 0] S0 ?_ ?_
 ·exact jj1 (nwA wA yar)
 intro _ a1 _ (S1:Zt [_] [_])
 refine wq [V (Lc es n),Fw (ZN (tot es n)) w,.put (.inl 2) (.box 24 ((ZN (tot es n)) w.heap.size))] [.inr 0] [] S1 ?_ ?_
 ·exact jj3 (mS 0 0) (cc1 wA (qO 0 3 rfl) (yah _) (ywf hn hB)) (seA 0 wA (oO 1 4) yad ya9 yai)
 intro _ a2 _ (S2:Zt [_] [])
 refine wp_ret ?_
 exact yav S2 rfl (ybb S2 0 2 rfl yad yai)
theorem zc8 {n lo:Nat}{zs:List Int}(hn:n<=1048576)(hl:zs.length=n)(hd:Dl zs 1073741824):∀ w u,Hs w (VN n zs lo) u->CG 127 #[u] w (ZN (sumZ zs)):=fun w u h=>by
 have:=zfh w u (zs.map zEl) n (zg4 _ _ h.now) hn (fun i e he=>by obtain ⟨z,hz,rfl⟩:=ybs he; exact hd i z hz)
 rw [ze2,zhg (by omega)] at this
 exact this



end Go.Proofs.YtdnindaohpdblaaGreat
