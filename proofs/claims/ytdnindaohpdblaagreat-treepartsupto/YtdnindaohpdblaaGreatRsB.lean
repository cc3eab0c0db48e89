import Derived.Test.YtdnindaohpdblaaGreatRsI
import Derived.Deep.RegionHeld3
import Derived.Deep.LoopGhost
set_option linter.all false
namespace Go.Proofs.YtdnindaohpdblaaGreat
open Go.RowKit Nt
set_option maxRecDepth 20000
set_option maxHeartbeats 16000000
theorem wr64 (n:Nat)(h:n < 18446744073709551616):IntKind.u64.wrap (n:Int)=(n:Int):=by
 simp only [IntKind.wrap_u64]
 omega
theorem zdk (x y:Nat)(hx:x < 18446744073709551616):IntKind.u64.wrap ((x:Int)-IntKind.u64.wrap (IntKind.u64.wrap ((x:Int) / (y:Int))*(y:Int)))=((x % y:Nat):Int):=by
 have h1:x / y<=x:=zia _ _
 have h2:x / y*y<=x:=zki _ _
 have h3:=zh9 x y
 rw [zhd] at h3
 rw [← zj1,wr64 (x / y) (by omega),← zho,wr64 (x / y*y) (by omega),show (x:Int)-((x / y*y:Nat):Int)=((x % y:Nat):Int) from by omega,wr64 _ (by omega)]
theorem yye (x y U u:Nat)(hx:x < 18446744073709551616)(h:U+x / y*u < 18446744073709551616):IntKind.u64.wrap ((U:Int)+IntKind.u64.wrap (IntKind.u64.wrap ((x:Int) / (y:Int))*(u:Int)))=((U+x / y*u:Nat):Int):=by
 have h1:x / y<=x:=zia _ _
 rw [← zj1,wr64 (x / y) (by omega),← zho,wr64 (x / y*u) (by omega),← zjx,wr64 _ h]
theorem ye5 {w:World}{g:Nat}{arr:Array Value}{t:TypeId}{fr:Nat × Nat}(h:w.heap[g]? = some (.cells arr t fr))(i:Nat)(v:Value):(w.setCell ⟨g,i,none⟩ v).heap[g]? = some (.cells (arr.setIfInBounds i v) t fr):=by
 rw [setCell_eq_setRow w g i arr _ _ v h]
 exact setRow_heap w g _ _ _ _ h
theorem yeb {w0 w:World}{B g:Nat}{arr:Array Value}{t:TypeId}{fr:Nat × Nat}(h:w.heap[g]? = some (.cells arr t fr))(i:Nat)(v:Value)(hb:Below B w0 w)(hg:B<=g):Below B w0 (w.setCell ⟨g,i,none⟩ v):=by
 rw [setCell_eq_setRow w g i arr _ _ v h]
 exact below_setRow hb hg _
theorem five {w:World}{g:Nat}{u0 u1 u2 u3 u4:Value}{t:TypeId}{fr:Nat × Nat}(h:w.heap[g]? = some (.cells #[u0,u1,u2,u3,u4] t fr))(v0 v1 v2 v3 v4:Value):
  (((((w.setCell ⟨g,0,none⟩ v0).setCell ⟨g,1,none⟩ v1).setCell ⟨g,2,none⟩ v2).setCell ⟨g,3,none⟩ v3).setCell ⟨g,4,none⟩ v4).heap[g]? = some (.cells #[v0,v1,v2,v3,v4] t fr):=by
 have:=ye5 (ye5 (ye5 (ye5 (ye5 h 0 v0) 1 v1) 2 v2) 3 v3) 4 v4
 rw [this]; rfl
theorem yq7 {w0 w:World}{B g:Nat}{u0 u1 u2 u3 u4:Value}{t:TypeId}{fr:Nat × Nat}(h:w.heap[g]? = some (.cells #[u0,u1,u2,u3,u4] t fr))(v0 v1 v2 v3 v4:Value)(hb:Below B w0 w)(hg:B<=g):
  Below B w0 (((((w.setCell ⟨g,0,none⟩ v0).setCell ⟨g,1,none⟩ v1).setCell ⟨g,2,none⟩ v2).setCell ⟨g,3,none⟩ v3).setCell ⟨g,4,none⟩ v4):=by
 have k0:=ye5 h 0 v0
 have k1:=ye5 k0 1 v1
 have k2:=ye5 k1 2 v2
 have k3:=ye5 k2 3 v3
 exact yeb k3 4 v4 (yeb k2 3 v3 (yeb k1 2 v2 (yeb k0 1 v1 (yeb h 0 v0 hb hg) hg) hg) hg) hg
theorem zdj (w:World)(pa pb:Option Addr)(n c m d:Nat)(xs ys:List Nat)(h:Sl w pa n c xs)(h':Sl w pb m d ys)(hn:3<=n)(hn':n<=70368744177664)(ht:xs.getD (n-1) 0≠0)(hmn:m<=n)(hle:val ys<=val xs):
  Calls Tryz.prog 136 #[.slice pa n c,.slice pb m d] w fun e w'=>∃ (U0 V0 U1 V1:Nat) (odd:Bool),e=.returned (.tuple #[.agg #[.int .u64 U0,.int .u64 V0,.int .u64 U1,.int .u64 V1,.bool odd],.bool (!decide (V0=0))])/\(U0 < 4294967296/\V0 < 4294967296/\U1 < 4294967296/\V1 < 4294967296)/\(V0≠0->Nt.Good (val xs) (val ys) U0 V0 U1 V1 odd)/\Below w.heap.size w w'/\(U0,V0,U1,V1,odd)=lookN xs ys n:=by
 have HH:=hid (fun (W:World) (hB:Below w.heap.size w W)=>ys3 W pa pb n c m d xs ys (h.below hB) (h'.below hB) hn hn' ht hmn hle)
 have HLE:=hid hle
 clear h h' ht hle
 go_enter Tryz.func136,Tryz.ntmps136
 go_wp2_with fail
 obtain ⟨W0,hW0⟩:∃ W,W=w.alloc (.cells #[.int .u64 0,.int .u64 0,.int .u64 0,.int .u64 0,.bool false] 156):=⟨_,rfl⟩
 have HB0:=hid (show Below w.heap.size w W0 from by rw [hW0]; exact (Below.refl _ _).alloc (zha _) _)
 have HG0:=hid (show W0.heap[w.heap.size]? = some (.cells #[.int .u64 0,.int .u64 0,.int .u64 0,.int .u64 0,.bool false] 156) from by rw [hW0]; exact heap_alloc_last _ _)
 rw [← hW0]
 refine (HH.out W0 HB0.out).mono ?_
 rintro e w1 ⟨X,Y,K,x0,y0,rfl,⟨nq,rfl⟩,g1,g2,g3,g4,g5,g6,g7,g8⟩
 have HLN:=hid (show lkE X Y 0 0 1 0 0 1 true=lookN xs ys n from by unfold lookN; rw [← g7,← g8])
 clear g7 g8
 go_wp2_with fail
 rw [← hW0]
 obtain ⟨W1,hW1⟩:∃ W,W=(W0.drewN nq).alloc (.cells #[.int .u64 0,.int .u64 0,.int .u64 1,.int .u64 0,.bool true] 156):=⟨_,rfl⟩
 have HS0:=hid (show W0.heap.size=w.heap.size+1 from by rw [hW0]; simp)
 have HG1:=hid (show W1.heap[w.heap.size+1]? = some (.cells #[.int .u64 0,.int .u64 0,.int .u64 1,.int .u64 0,.bool true] 156) from by rw [hW1,← HS0.out]; exact heap_alloc_last _ _)
 rw [← hW1]
 clear hW0
 obtain ⟨g,hg⟩:∃ g,g=w.heap.size+1:=⟨_,rfl⟩
 rw [← hg] at HG1 ⊢
 have HGE:=hid hg
 have HW1:=hid hW1
 clear hg hW1
 have HI0:=hid (LI.start (X:=X) (Y:=Y) (K:=K) (a0:=x0) (b0:=y0) (yy4 (l:=x0) (l':=y0) (T:=K) (by rw [g3,zhd,zjt]) (by rw [g4,zhd,zjt]) g1 HLE.out) (by omega))
 have HBX:=hid (show Below W0.heap.size W0 W1 from by rw [HW1.out]; exact (ybq (Below.refl _ _) nq).alloc (zha _) _)
 obtain ⟨ρ,hρ⟩:∃ ρ,ρ=w.heap.size:=⟨_,rfl⟩
 rw [← hρ]
 have HRR:=hid (show W1.heap[ρ]? = some (.cells #[.int .u64 0,.int .u64 0,.int .u64 0,.int .u64 0,.bool false] 156) from by
  rw [(HBX.out.block ρ (by rw [hρ,HS0.out]; omega)),hρ]
  exact HG0.out)
 have HBW:=hid (show Below w.heap.size w W1 from HB0.out.trans (HBX.out.mono (by rw [HS0.out]; omega)))
 have HRE:=hid hρ
 clear hρ
 go_loopw [6,7,9,10] (fun xv yv uv vv wr=>∃ (x y U0 V0 U1 V1 u2 v2:Nat) (odd:Bool),xv=.int .u64 x/\yv=.int .u64 y/\uv=.int .u64 u2/\vv=.int .u64 v2/\Hid (LI X Y K x0 y0 x y U0 V0 U1 V1 u2 v2 odd/\wr.heap[g]? = some (.cells #[.int .u64 U0,.int .u64 V0,.int .u64 U1,.int .u64 V1,.bool odd] 156)/\(Below g W1 wr/\lkE x y U0 V0 U1 V1 u2 v2 odd=lkE X Y 0 0 1 0 0 1 true))) (fun _ yv _ _ _=>(intOf yv).toNat)
 case atStart=>exact ⟨X,Y,0,0,1,0,0,1,true,rfl,rfl,rfl,rfl,HI0.out,HG1.out,Below.refl _ _,rfl⟩
 case round =>
  obtain ⟨x,y,U0,V0,U1,V1,u2,v2,odd,rfl,rfl,rfl,rfl,HI⟩:=hrel
  have c0:wr.cell? ⟨g,0,none⟩=some (.int .u64 U0):=by simp [World.cell?,HI.out.2.1]
  have c1:wr.cell? ⟨g,1,none⟩=some (.int .u64 V0):=by simp [World.cell?,HI.out.2.1]
  have c2:wr.cell? ⟨g,2,none⟩=some (.int .u64 U1):=by simp [World.cell?,HI.out.2.1]
  have c3:wr.cell? ⟨g,3,none⟩=some (.int .u64 V1):=by simp [World.cell?,HI.out.2.1]
  have c4:wr.cell? ⟨g,4,none⟩=some (.bool odd):=by simp [World.cell?,HI.out.2.1]
  have HRW:Hid (wr.heap[ρ]? = some (.cells #[.int .u64 0,.int .u64 0,.int .u64 0,.int .u64 0,.bool false] 156)):=by
   rw [HI.out.2.2.1.block ρ (by rw [HRE.out,HGE.out]; omega)]
   exact HRR.out
  have rg:ρ≠g:=by rw [HRE.out,HGE.out]; omega
  have d0:wr.cell? ⟨ρ,0,none⟩=some (.int .u64 0):=by simp [World.cell?,HRW.out]
  have d1:wr.cell? ⟨ρ,1,none⟩=some (.int .u64 0):=by simp [World.cell?,HRW.out]
  have d2:wr.cell? ⟨ρ,2,none⟩=some (.int .u64 0):=by simp [World.cell?,HRW.out]
  have d3:wr.cell? ⟨ρ,3,none⟩=some (.int .u64 0):=by simp [World.cell?,HRW.out]
  have d4:wr.cell? ⟨ρ,4,none⟩=some (.bool false):=by simp [World.cell?,HRW.out]
  have fr:∀ i,wr.frozen? ⟨ρ,i,none⟩=false:=fun i=>by simp [World.frozen?,HRW.out]
  have fz:∀ i,wr.frozen? ⟨g,i,none⟩=false:=fun i=>by simp [World.frozen?,HI.out.2.1]
  have xb:x < 18446744073709551616:=zij HI.out.1.xX g6
  have yx:=HI.out.1.le
  have vb:v2 < 18446744073709551616:=zij HI.out.1.vX g6
  have V1b:=HI.out.1.small.2.2.2
  have vp:=HI.out.1.pos
  have hq:=five HRW.out (.int .u64 U0) (.int .u64 V0) (.int .u64 U1) (.int .u64 V1) (.bool odd)
  have hqb:=yq7 HRW.out (.int .u64 U0) (.int .u64 V0) (.int .u64 U1) (.int .u64 V1) (.bool odd) (HBW.out.trans (HI.out.2.2.1.mono (show w.heap.size<=g by rw [HGE.out]; omega))) (by rw [HRE.out]; exact zha _)
  obtain ⟨wz,hwz⟩:∃ wz,(((((wr.setCell ⟨ρ,0,none⟩ (.int .u64 U0)).setCell ⟨ρ,1,none⟩ (.int .u64 V0)).setCell ⟨ρ,2,none⟩ (.int .u64 U1)).setCell ⟨ρ,3,none⟩ (.int .u64 V1)).setCell ⟨ρ,4,none⟩ (.bool odd))=wz:=⟨_,rfl⟩
  rw [hwz] at hq hqb
  have hc0:wz.cell? ⟨ρ,0,none⟩=some (.int .u64 U0):=by simp [World.cell?,hq]
  have hc1:wz.cell? ⟨ρ,1,none⟩=some (.int .u64 V0):=by simp [World.cell?,hq]
  have hc2:wz.cell? ⟨ρ,2,none⟩=some (.int .u64 U1):=by simp [World.cell?,hq]
  have hc3:wz.cell? ⟨ρ,3,none⟩=some (.int .u64 V1):=by simp [World.cell?,hq]
  have hc4:wz.cell? ⟨ρ,4,none⟩=some (.bool odd):=by simp [World.cell?,hq]
  have hbo:((V0:Int) != 0)=!decide (V0=0):=by
   by_cases e:V0=0 <;> simp [e]
  have FIN:Hid (¬ (v2<=y/\V1+v2+y<=x)->∃ (U0' V0' U1' V1':Nat) (odd':Bool),Ending.returned (.tuple #[.agg #[.int .u64 U0,.int .u64 V0,.int .u64 U1,.int .u64 V1,.bool odd],.bool (!decide (V0=0))])=.returned (.tuple #[.agg #[.int .u64 U0',.int .u64 V0',.int .u64 U1',.int .u64 V1',.bool odd'],.bool (!decide (V0'=0))])/\(U0' < 4294967296/\V0' < 4294967296/\U1' < 4294967296/\V1' < 4294967296)/\(V0'≠0->Nt.Good (val xs) (val ys) U0' V0' U1' V1' odd')/\Below w.heap.size w wz.drew/\(U0',V0',U1',V1',odd')=lookN xs ys n):=by
   refine hid fun hex=>?_
   refine ⟨U0,V0,U1,V1,odd,rfl,HI.out.1.small,fun hne=>?_,hqb.drew,by rw [← HLN.out,← HI.out.2.2.2,zae hex]⟩
   rw [g3,g4]
   rcases HI.out.1.phase with h | h | h
   ·exact absurd h.1 hne
   ·exact absurd h.1 hne
   ·exact h.2.2.2.2
  have HC:=hid hwz
  clear hq hqb hwz
  by_cases hA:v2<=y
  ·have vs:v2 < 4294967296:=by
    have e:=HI.out.1.high
    have h1:v2*v2<=v2*x:=zhm _ (by omega)
    apply Classical.byContradiction
    intro hc
    have h2:4294967296*4294967296<=v2*v2:=ziz (by omega) (by omega)
    omega
   by_cases hC:V1+v2+y<=x
   ·go_wp2_with fail
    have HN:=HI.out.1.next g1 g2 g6 hA hC
    have hv2:=HN.vX
    have hu2:=HN.uv
    have k0:=ye5 HI.out.2.1 0 (.int .u64 U1)
    have k1:=ye5 k0 2 (.int .u64 u2)
    have k2:=ye5 k1 1 (.int .u64 V1)
    have k3:=ye5 k2 3 (.int .u64 v2)
    have k4:=ye5 k3 4 (.bool !odd)
    have m0:=yeb HI.out.2.1 0 (.int .u64 U1) HI.out.2.2.1 (zha _)
    have m1:=yeb k0 2 (.int .u64 u2) m0 (zha _)
    have m2:=yeb k1 1 (.int .u64 V1) m1 (zha _)
    have m3:=yeb k2 3 (.int .u64 v2) m2 (zha _)
    have m4:=yeb k3 4 (.bool !odd) m3 (zha _)
    rw [zdk x y xb,yye x y U1 u2 xb (by omega),yye x y V1 v2 xb (by omega)]
    refine ⟨⟨y,x % y,U1,V1,u2,v2,U1+x / y*u2,V1+x / y*v2,!odd,rfl,rfl,rfl,rfl,HN,?_,m4,(zdh hA hC vp).trans HI.out.2.2.2⟩,?_⟩
    ·rw [k4]; rfl
    ·have:x % y < y:=zic _ (by omega)
     simp [intOf]; omega
   ·go_wp2_with fail
    go_region_with fail
    all_goals go_wp2
    all_goals rw [HC.out]
    all_goals refine bodyPost_ret (by simp [results,Tryz.results136,go_sem,Act.put,hc0,hc1,hc2,hc3,hc4,hbo]; try rfl) rfl ?_
    all_goals exact FIN.out (fun h=>hC h.2)
  ·go_wp2_with fail
   go_region_with fail
   all_goals go_wp2
   all_goals rw [HC.out]
   all_goals refine bodyPost_ret (by simp [results,Tryz.results136,go_sem,Act.put,hc0,hc1,hc2,hc3,hc4,hbo]; try rfl) rfl ?_
   all_goals exact FIN.out (fun h=>hA h.1)
theorem zdi (w:World)(pa pb:Option Addr)(n c m d:Nat)(xs ys:List Nat)(h:Sl w pa n c xs)(h':Sl w pb m d ys)(hn:3<=n)(hn':n<=70368744177664)(ht:xs.getD (n-1) 0≠0)(hmn:m<=n)(hle:val ys<=val xs):
  Calls Tryz.prog 136 #[.slice pa n c,.slice pb m d] w fun e w'=>∃ (U0 V0 U1 V1:Nat) (odd:Bool),e=.returned (.tuple #[.agg #[.int .u64 U0,.int .u64 V0,.int .u64 U1,.int .u64 V1,.bool odd],.bool (!decide (V0=0))])/\(U0 < 4294967296/\V0 < 4294967296/\U1 < 4294967296/\V1 < 4294967296)/\(V0≠0->Nt.Good (val xs) (val ys) U0 V0 U1 V1 odd)/\Below w.heap.size w w':=by
 refine (zdj w pa pb n c m d xs ys h h' hn hn' ht hmn hle).mono ?_
 rintro e w' ⟨U0,V0,U1,V1,odd,h1,h2,h3,h4,-⟩
 exact ⟨U0,V0,U1,V1,odd,h1,h2,h3,h4⟩
theorem yha {w w':World}{a:Addr}{v:Value}(h:w.cell? a=some v)(hb:Below w.heap.size w w'):w'.cell? a=some v:=
 (World.cell?_of_block (w:=w) (hb.block a.block (yb3 h))).trans h
theorem keepG {w w' w'':World}{g:Nat}{v0 v1 v2 v3:Value}(h:w'.cell? ⟨g,0,none⟩=some v0/\w'.cell? ⟨g,1,none⟩=some v1/\w'.cell? ⟨g,2,none⟩=some v2/\w'.cell? ⟨g,3,none⟩=some v3/\Hid (Below w.heap.size w w'))(hb:Below w'.heap.size w' w''):
  w''.cell? ⟨g,0,none⟩=some v0/\w''.cell? ⟨g,1,none⟩=some v1/\w''.cell? ⟨g,2,none⟩=some v2/\w''.cell? ⟨g,3,none⟩=some v3/\Hid (Below w.heap.size w w''):=
 ⟨yha h.1 hb,yha h.2.1 hb,yha h.2.2.1 hb,yha h.2.2.2.1 hb,h.2.2.2.2.out.trans (hb.mono h.2.2.2.2.out.size)⟩
theorem belowG {w w':World}{g:Nat}{v0 v1 v2 v3:Value}(h:w'.cell? ⟨g,0,none⟩=some v0/\w'.cell? ⟨g,1,none⟩=some v1/\w'.cell? ⟨g,2,none⟩=some v2/\w'.cell? ⟨g,3,none⟩=some v3/\Hid (Below w.heap.size w w')):Below w.heap.size w w':=h.2.2.2.2.out
theorem za0 (w:World)(pa pb:Option Addr)(n c m d:Nat)(xs ys:List Nat)(U0 V0 U1 V1:Nat)(odd:Bool)(h:Sl w pa n c xs)(h':Sl w pb m d ys)(hn':n<=70368744177664)(hmn:m<=n)
  (hU0:U0 < 4294967296) (hV0:V0 < 4294967296) (hU1:U1 < 4294967296) (hV1:V1 < 4294967296) (hg:Nt.Good (val xs) (val ys) U0 V0 U1 V1 odd):
  Calls Tryz.prog 137 #[.agg #[.int .u64 U0,.int .u64 V0,.int .u64 U1,.int .u64 V1,.bool odd],.slice pa n c,.slice pb m d] w fun e w'=>∃ (a' b':Nat) (r r':Option Addr) (k k':Nat),e=.returned (.tuple #[.slice r (digs a').length k,.slice r' (digs b').length k'])/\Sl w' r (digs a').length k (digs a')/\Sl w' r' (digs b').length k' (digs b')/\Below w.heap.size w w'/\b' < a'/\a'<=val ys/\Nat.gcd a' b'=Nat.gcd (val xs) (val ys)/\(odd=true/\V0*val ys=a'+U0*val xs/\U1*val xs=b'+V1*val ys\/odd=false/\U0*val xs=a'+V0*val ys/\V1*val ys=b'+U1*val xs)/\(odd=true/\U1*V0=1+U0*V1\/odd=false/\U0*V1=1+U1*V0)/\(∀ b o,r=some ⟨b,o,none⟩->w.heap.size<=b)/\(∀ b o,r'=some ⟨b,o,none⟩->w.heap.size<=b):=by
 obtain ⟨a',b',hcase,hba,hab,hgcd,hdt⟩:=hg
 have hL:max n m=n:=by omega
 have hL':max m n=n:=by omega
 have hlt:val ys < 4294967296 ^ n:=by
  have:=yc1 h'.ok
  rw [h'.len] at this
  exact zhe this (zhp (by omega) hmn)
 have HX:=hid h
 have HY:=hid h'
 have FIN:=hid (And.intro hba (And.intro hab (And.intro hgcd (And.intro hcase hdt))))
 clear hdt
 rcases hcase with ⟨rfl,e1,e2⟩ | ⟨rfl,e1,e2⟩
 ·have D1:=hid (fun (W:World) (hB:Below w.heap.size w W)=>yih W pb pa m d n c ys xs V0 U0 n (h'.below hB) (h.below hB) hV0 hU0 hL' hn' (by rw [zhd (val ys),zhd (val xs),e1]; omega) (by rw [zhd (val ys),zhd (val xs),e1]; omega))
  have D2:=hid (fun (W:World) (hB:Below w.heap.size w W)=>yih W pa pb n c m d xs ys U1 V1 n (h.below hB) (h'.below hB) hU1 hV1 hL hn' (by rw [zhd (val ys),zhd (val xs),e2]; omega) (by rw [zhd (val ys),zhd (val xs),e2]; omega))
  have E1:val ys*V0-val xs*U0=a':=by rw [zhd (val ys),zhd (val xs),e1]; omega
  have E2:val xs*U1-val ys*V1=b':=by rw [zhd (val ys),zhd (val xs),e2]; omega
  rw [E1] at D1
  rw [E2] at D2
  clear e1 e2 E1 E2 hlt hba hab hgcd h h' hL hL'
  go_enter Tryz.func137,Tryz.ntmps137
  go_wp2_with fail
  obtain ⟨W0,hW0⟩:∃ W,W=w.alloc (.cells #[.int .u64 U0,.int .u64 V0,.int .u64 U1,.int .u64 V1,.bool true] 156):=⟨_,rfl⟩
  have HB0:=hid (show Below w.heap.size w W0 from by rw [hW0]; exact (Below.refl _ _).alloc (zha _) _)
  have HG0:=hid (show W0.heap[w.heap.size]? = some (.cells #[.int .u64 U0,.int .u64 V0,.int .u64 U1,.int .u64 V1,.bool true] 156) from by rw [hW0]; exact heap_alloc_last _ _)
  rw [← hW0]
  obtain ⟨g,hg⟩:∃ g,g=w.heap.size:=⟨_,rfl⟩
  rw [← hg] at HG0 ⊢
  have HGE:=hid hg
  clear hg hW0
  have c0:W0.cell? ⟨g,0,none⟩=some (.int .u64 U0):=by simp [World.cell?,HG0.out]
  have c1:W0.cell? ⟨g,1,none⟩=some (.int .u64 V0):=by simp [World.cell?,HG0.out]
  have c2:W0.cell? ⟨g,2,none⟩=some (.int .u64 U1):=by simp [World.cell?,HG0.out]
  have c3:W0.cell? ⟨g,3,none⟩=some (.int .u64 V1):=by simp [World.cell?,HG0.out]
  go_region_held3 (fun w'=>w'.cell? ⟨g,0,none⟩=some (.int .u64 U0)/\w'.cell? ⟨g,1,none⟩=some (.int .u64 V0)/\w'.cell? ⟨g,2,none⟩=some (.int .u64 U1)/\w'.cell? ⟨g,3,none⟩=some (.int .u64 V1)/\Hid (Below w.heap.size w w'))
   (first | (with_reducible exact keepG (w:=w) (g:=g) (v0:=.int .u64 U0) (v1:=.int .u64 V0) (v2:=.int .u64 U1) (v3:=.int .u64 V1) (by assumption) hBz) | (exact ⟨c0,c1,c2,c3,HB0.out.drew⟩) | fail)
   (first | (go_at_call_of 145 (Value.slice pb m d); refine (D1.out _ (belowG (w:=w) (g:=g) (v0:=.int .u64 U0) (v1:=.int .u64 V0) (v2:=.int .u64 U1) (v3:=.int .u64 V1) (by with_reducible assumption))).mono ?_; rintro e wu ⟨r1,k1,rfl,R1⟩; have hBz:=R1.below; have H1:=hid R1.sl; have F1:=hid (fun b o e=>zhb (belowG (w:=w) (g:=g) (v0:=.int .u64 U0) (v1:=.int .u64 V0) (v2:=.int .u64 U1) (v3:=.int .u64 V1) (by with_reducible assumption)).size (R1.own b o e).2.1); clear D1)
          | (go_at_call_of 145 (Value.slice pa n c); refine (D2.out _ (belowG (w:=w) (g:=g) (v0:=.int .u64 U0) (v1:=.int .u64 V0) (v2:=.int .u64 U1) (v3:=.int .u64 V1) (by with_reducible assumption))).mono ?_; rintro e wv ⟨r2,k2,rfl,R2⟩; have hBz:=R2.below; have H2:=hid R2.sl; have F2:=hid (fun b o e=>zhb (belowG (w:=w) (g:=g) (v0:=.int .u64 U0) (v1:=.int .u64 V0) (v2:=.int .u64 U1) (v3:=.int .u64 V1) (by with_reducible assumption)).size (R2.own b o e).2.1); have H1':=hid (H1.out.below hBz); have HS:=hid (keepG (w:=w) (g:=g) (v0:=.int .u64 U0) (v1:=.int .u64 V0) (v2:=.int .u64 U1) (v3:=.int .u64 V1) (by with_reducible assumption) hBz)))
  all_goals go_wp2
  all_goals go_ret2
  all_goals exact ⟨a',b',r1,r2,k1,k2,rfl,H1'.out,H2.out,HS.out.2.2.2.2.out,FIN.out.1,FIN.out.2.1,FIN.out.2.2.1,FIN.out.2.2.2.1,FIN.out.2.2.2.2,F1.out,F2.out⟩
 ·have D1:=hid (fun (W:World) (hB:Below w.heap.size w W)=>yih W pa pb n c m d xs ys U0 V0 n (h.below hB) (h'.below hB) hU0 hV0 hL hn' (by rw [zhd (val ys),zhd (val xs),e1]; omega) (by rw [zhd (val ys),zhd (val xs),e1]; omega))
  have D2:=hid (fun (W:World) (hB:Below w.heap.size w W)=>yih W pb pa m d n c ys xs V1 U1 n (h'.below hB) (h.below hB) hV1 hU1 hL' hn' (by rw [zhd (val ys),zhd (val xs),e2]; omega) (by rw [zhd (val ys),zhd (val xs),e2]; omega))
  have E1:val xs*U0-val ys*V0=a':=by rw [zhd (val ys),zhd (val xs),e1]; omega
  have E2:val ys*V1-val xs*U1=b':=by rw [zhd (val ys),zhd (val xs),e2]; omega
  rw [E1] at D1
  rw [E2] at D2
  clear e1 e2 E1 E2 hlt hba hab hgcd h h' hL hL'
  go_enter Tryz.func137,Tryz.ntmps137
  go_wp2_with fail
  obtain ⟨W0,hW0⟩:∃ W,W=w.alloc (.cells #[.int .u64 U0,.int .u64 V0,.int .u64 U1,.int .u64 V1,.bool false] 156):=⟨_,rfl⟩
  have HB0:=hid (show Below w.heap.size w W0 from by rw [hW0]; exact (Below.refl _ _).alloc (zha _) _)
  have HG0:=hid (show W0.heap[w.heap.size]? = some (.cells #[.int .u64 U0,.int .u64 V0,.int .u64 U1,.int .u64 V1,.bool false] 156) from by rw [hW0]; exact heap_alloc_last _ _)
  rw [← hW0]
  obtain ⟨g,hg⟩:∃ g,g=w.heap.size:=⟨_,rfl⟩
  rw [← hg] at HG0 ⊢
  have HGE:=hid hg
  clear hg hW0
  have c0:W0.cell? ⟨g,0,none⟩=some (.int .u64 U0):=by simp [World.cell?,HG0.out]
  have c1:W0.cell? ⟨g,1,none⟩=some (.int .u64 V0):=by simp [World.cell?,HG0.out]
  have c2:W0.cell? ⟨g,2,none⟩=some (.int .u64 U1):=by simp [World.cell?,HG0.out]
  have c3:W0.cell? ⟨g,3,none⟩=some (.int .u64 V1):=by simp [World.cell?,HG0.out]
  go_region_held3 (fun w'=>w'.cell? ⟨g,0,none⟩=some (.int .u64 U0)/\w'.cell? ⟨g,1,none⟩=some (.int .u64 V0)/\w'.cell? ⟨g,2,none⟩=some (.int .u64 U1)/\w'.cell? ⟨g,3,none⟩=some (.int .u64 V1)/\Hid (Below w.heap.size w w'))
   (first | (with_reducible exact keepG (w:=w) (g:=g) (v0:=.int .u64 U0) (v1:=.int .u64 V0) (v2:=.int .u64 U1) (v3:=.int .u64 V1) (by assumption) hBz) | (exact ⟨c0,c1,c2,c3,HB0.out.drew⟩) | fail)
   (first | (go_at_call_of 145 (Value.slice pa n c); refine (D1.out _ (belowG (w:=w) (g:=g) (v0:=.int .u64 U0) (v1:=.int .u64 V0) (v2:=.int .u64 U1) (v3:=.int .u64 V1) (by with_reducible assumption))).mono ?_; rintro e wu ⟨r1,k1,rfl,R1⟩; have hBz:=R1.below; have H1:=hid R1.sl; have F1:=hid (fun b o e=>zhb (belowG (w:=w) (g:=g) (v0:=.int .u64 U0) (v1:=.int .u64 V0) (v2:=.int .u64 U1) (v3:=.int .u64 V1) (by with_reducible assumption)).size (R1.own b o e).2.1); clear D1)
          | (go_at_call_of 145 (Value.slice pb m d); refine (D2.out _ (belowG (w:=w) (g:=g) (v0:=.int .u64 U0) (v1:=.int .u64 V0) (v2:=.int .u64 U1) (v3:=.int .u64 V1) (by with_reducible assumption))).mono ?_; rintro e wv ⟨r2,k2,rfl,R2⟩; have hBz:=R2.below; have H2:=hid R2.sl; have F2:=hid (fun b o e=>zhb (belowG (w:=w) (g:=g) (v0:=.int .u64 U0) (v1:=.int .u64 V0) (v2:=.int .u64 U1) (v3:=.int .u64 V1) (by with_reducible assumption)).size (R2.own b o e).2.1); have H1':=hid (H1.out.below hBz); have HS:=hid (keepG (w:=w) (g:=g) (v0:=.int .u64 U0) (v1:=.int .u64 V0) (v2:=.int .u64 U1) (v3:=.int .u64 V1) (by with_reducible assumption) hBz)))
  all_goals go_wp2
  all_goals go_ret2
  all_goals exact ⟨a',b',r1,r2,k1,k2,rfl,H1'.out,H2.out,HS.out.2.2.2.2.out,FIN.out.1,FIN.out.2.1,FIN.out.2.2.1,FIN.out.2.2.2.1,FIN.out.2.2.2.2,F1.out,F2.out⟩
theorem zaz (w:World)(pa pb:Option Addr)(n c m d:Nat)(xs ys:List Nat)(U0 V0 U1 V1:Nat)(odd:Bool)(h:Sl w pa n c xs)(h':Sl w pb m d ys)(hn':n<=70368744177664)(hmn:m<=n)
  (hU0:U0 < 4294967296) (hV0:V0 < 4294967296) (hU1:U1 < 4294967296) (hV1:V1 < 4294967296) (hg:Nt.Good (val xs) (val ys) U0 V0 U1 V1 odd):
  Calls Tryz.prog 137 #[.agg #[.int .u64 U0,.int .u64 V0,.int .u64 U1,.int .u64 V1,.bool odd],.slice pa n c,.slice pb m d] w fun e w'=>∃ (a' b':Nat) (r r':Option Addr) (k k':Nat),e=.returned (.tuple #[.slice r (digs a').length k,.slice r' (digs b').length k'])/\Sl w' r (digs a').length k (digs a')/\Sl w' r' (digs b').length k' (digs b')/\Below w.heap.size w w'/\b' < a'/\a'<=val ys/\Nat.gcd a' b'=Nat.gcd (val xs) (val ys):=by
 refine (za0 w pa pb n c m d xs ys U0 V0 U1 V1 odd h h' hn' hmn hU0 hV0 hU1 hV1 hg).mono ?_
 rintro e w' ⟨a',b',r,r',k,k',h1,h2,h3,h4,h5,h6,h7,-⟩
 exact ⟨a',b',r,r',k,k',h1,h2,h3,h4,h5,h6,h7⟩
def Dn (w w':World)(A B:Nat)(r r':Option Addr)(k k' A' B':Nat):Prop:=
 Sl w' r (digs A').length k (digs A')/\Sl w' r' (digs B').length k' (digs B')/\Below w.heap.size w w'/\B' < A'/\A'<=B/\Nat.gcd A' B'=Nat.gcd A B
theorem ytd (w:World)(pa pb:Option Addr)(c d A B n m:Nat)(en:(digs A).length=n)(em:(digs B).length=m)(h:Sl w pa n c (digs A))(h':Sl w pb m d (digs B))(hm:3<=m)(hBA:B<=A)(hs:n+1<=70368744177664):
  Calls Tryz.prog 128 #[.slice pa n c,.slice pb m d] w fun e w'=>∃ (A' B':Nat) (r r':Option Addr) (k k':Nat),e=.returned (.tuple #[.slice r (digs A').length k,.slice r' (digs B').length k'])/\Dn w w' A B r r' k k' A' B':=by
 have hmn:m<=n:=by rw [← en,← em]; exact yag hBA
 have hB0:B≠0:=by
  intro e
  rw [e,yc8] at em
  simp at em
  omega
 have htop:(digs A).getD (n-1) 0≠0:=by
  rw [← en]
  exact (yhp A).resolve_left (by intro e; rw [e] at en; simp at en; omega)
 have LK:=hid (fun (W:World) (hW:Below w.heap.size w W)=>zdi W pa pb n c m d (digs A) (digs B) (h.below hW) (h'.below hW) (by omega) (by omega) htop hmn (by rw [yaf,yaf]; exact hBA))
 have RS:=hid (fun (W:World) (hW:Below w.heap.size w W) U0 V0 U1 V1 odd a b c' d' hg=>zaz W pa pb n c m d (digs A) (digs B) U0 V0 U1 V1 odd (h.below hW) (h'.below hW) (by omega) hmn a b c' d' hg)
 have DV:=hid (fun (W:World) (hW:Below w.heap.size w W)=>yn8 W pa pb n c m d (digs A) (digs B) (h.below hW) (h'.below hW) (by rw [yaf]; exact hB0) hs)
 rw [yaf,yaf] at LK RS DV
 have HX:=hid h
 have HY:=hid h'
 have HEN:=hid en
 have HEM:=hid em
 have HB0:=hid hB0
 clear h h' htop en em hB0
 go_enter Tryz.func128,Tryz.ntmps128
 go_wp2_with fail
 refine (LK.out _ (Below.refl _ _)).mono ?_
 rintro e w1 ⟨U0,V0,U1,V1,odd,rfl,⟨s1,s2,s3,s4⟩,hgood,hb⟩
 have HB:=hid hb
 have HGOOD:=hid hgood
 clear hb hgood LK
 by_cases hV:V0=0
 ·subst hV
  go_wp2_with fail
  refine (DV.out _ (HB.out.alloc HB.out.size _)).mono ?_
  rintro e w2 ⟨r,cr,s,cs,rfl,R1,R2,T2⟩
  have HR2:=hid R2
  clear R1 R2 T2
  go_wp2_with fail
  go_ret2
  have hB1:=(HB.out.alloc HB.out.size (.cells #[.int .u64 U0,.int .u64 0,.int .u64 U1,.int .u64 V1,.bool odd] 156)).trans (HR2.out.below.mono (zhb HB.out.size (by simp)))
  refine ⟨B,A % B,pb,s,d,cs,by rw [HEM.out]; rfl,?_,HR2.out.sl,hB1,zic _ (zhw HB0.out),zha _,?_⟩
  ·rw [HEM.out]; exact HY.out.below hB1
  ·rw [zj8,← Nat.gcd_rec,zj8]
 ·have hbo:(!decide (V0=0))=true:=by simp [hV]
  have HV:=hid hV
  clear hV
  rw [hbo]
  go_wp2_with fail
  refine (RS.out _ (HB.out.alloc HB.out.size _) U0 V0 U1 V1 odd s1 s2 s3 s4 (HGOOD.out HV.out)).mono ?_
  rintro e w2 ⟨a',b',r,r',k,k',rfl,k1,k2,k3,k4,k5,k6⟩
  have K1:=hid k1
  have K2:=hid k2
  have K3:=hid k3
  have K6:=hid k6
  clear k1 k2 k3 k6
  go_wp2_with fail
  go_ret2
  have hB1:=(HB.out.alloc HB.out.size (.cells #[.int .u64 U0,.int .u64 V0,.int .u64 U1,.int .u64 V1,.bool odd] 156)).trans (K3.out.mono (zhb HB.out.size (by simp)))
  exact ⟨a',b',r,r',k,k',rfl,K1.out,K2.out,hB1,k4,k5,K6.out⟩
def GI (w wr:World)(G A B:Nat)(r r':Option Addr)(k k':Nat):Prop:=
 Below w.heap.size w wr/\Sl wr r (digs A).length k (digs A)/\Sl wr r' (digs B).length k' (digs B)/\B<=A/\Nat.gcd A B=G/\(digs A).length+1<=70368744177664
theorem yzr {a b:Nat}(h:a < b):cmpN a b=-1:=by simp [cmpN,h]
theorem yzq {a b:Nat}(h:b<=a):¬ cmpN a b < 0:=by
 unfold cmpN
 rw [if_neg (by omega)]
 split <;> omega
theorem ypj {A B G:Nat}(h:Nat.gcd A B=G):Nat.gcd B (A % B)=G:=by
 rw [zj8,← Nat.gcd_rec,zj8,h]
theorem zf0 (w:World)(pa pb:Option Addr)(n c m d:Nat)(xs ys:List Nat)(h:Sl w pa n c xs)(h':Sl w pb m d ys)(hs:n+1<=70368744177664)(hs':m+1<=70368744177664):
  Calls Tryz.prog 120 #[.slice pa n c,.slice pb m d] w fun e w'=>∃ r cr,e=.returned (.slice r (digs (Nat.gcd (val xs) (val ys))).length cr)/\Res w w' r cr (Nat.gcd (val xs) (val ys)):=by
 obtain ⟨la,hla⟩:∃ la,(digs (val xs)).length=la:=⟨_,rfl⟩
 obtain ⟨lb,hlb⟩:∃ lb,(digs (val ys)).length=lb:=⟨_,rfl⟩
 have T1:=hid (ycz w pa n c la xs hla h)
 have T2:=hid (ycz w pb m d lb ys hlb h')
 have S1:=h.digs
 have S2:=h'.digs
 have l1:=h.dl
 have l2:=h'.dl
 obtain ⟨X,hX⟩:∃ X,val xs=X:=⟨_,rfl⟩
 obtain ⟨Y,hY⟩:∃ Y,val ys=Y:=⟨_,rfl⟩
 rw [hX] at hla S1 l1
 rw [hY] at hlb S2 l2
 rw [hX,hY]
 rw [hla] at S1 l1
 rw [hlb] at S2 l2
 have CM:=yqw w pa pb la c lb d (digs X) (digs Y) S1 S2
 rw [yaf,yaf] at CM
 have HCM:=hid CM
 have HS1:=hid S1
 have HS2:=hid S2
 have HLA:=hid hla
 have HLB:=hid hlb
 have hm:=h.max
 have hm':=h'.max
 have hc1:=S1.cap
 have hc2:=S2.cap
 unfold maxLen at hm hm'
 obtain ⟨G,hG⟩:∃ G,Nat.gcd X Y=G:=⟨_,rfl⟩
 rw [hG]
 have HG:=hid hG
 clear h h' S1 S2 hla hlb hX hY CM hG
 rcases zi0 X Y with hlt | hge
 ·have hcm:=yzr hlt
  have GS:Hid (∀ nq,∃ (A B:Nat) (r r':Option Addr) (k k':Nat),B<=X+Y/\Value.slice pb lb d=.slice r (digs A).length k/\Value.slice pa la c=.slice r' (digs B).length k'/\Hid (GI w (w.drewN nq) G A B r r' k k')):=by
   intro nq
   refine ⟨Y,X,pb,pa,d,c,by omega,by rw [HLB.out],by rw [HLA.out],?_⟩
   have hb:=ybq (Below.refl w.heap.size w) nq
   refine ⟨hb,?_,?_,by omega,by rw [zj8]; exact HG.out,by rw [HLB.out]; omega⟩
   ·rw [HLB.out]; exact HS2.out.below hb
   ·rw [HLA.out]; exact HS1.out.below hb
  rw [hcm] at HCM
  clear hcm hlt
  go_enter Tryz.func120,Tryz.ntmps120
  go_wp2_with fail
  refine T1.out.mono ?_
  rintro e w' ⟨rfl,rfl⟩
  go_wp2_with fail
  refine T2.out.mono ?_
  rintro e w' ⟨rfl,rfl⟩
  go_wp2_with fail
  refine HCM.out.mono ?_
  rintro e w'' ⟨rfl,nq,rfl⟩
  have GT:=GS.out nq
  clear GS
  go_wp2_with fail
  go_loopg [0,1] (X+Y) (fun gk s0 s1 wr=>∃ (A B:Nat) (r r':Option Addr) (k k':Nat),B<=gk/\s0=.slice r (digs A).length k/\s1=.slice r' (digs B).length k'/\Hid (GI w' wr G A B r r' k k'))
  case atStart=>exact GT
  case round =>
   obtain ⟨A,B,r,r',k,k',hk,rfl,rfl,HR⟩:=hrel
   obtain ⟨La,hLa⟩:∃ L,(digs A).length=L:=⟨_,rfl⟩
   obtain ⟨Lb,hLb⟩:∃ L,(digs B).length=L:=⟨_,rfl⟩
   have z0:=ya2 B
   rw [hLb] at z0
   rw [hLa,hLb]
   have HLa:=hid hLa
   have HLb:=hid hLb
   have hLab:Lb<=La:=by rw [← hLa,← hLb]; exact yag HR.out.2.2.2.1
   have hLs:La+1<=70368744177664:=by rw [← hLa]; exact HR.out.2.2.2.2.2
   have SA:Sl wr r La k (digs A):=by rw [← hLa]; exact HR.out.2.1
   have SB:Sl wr r' Lb k' (digs B):=by rw [← hLb]; exact HR.out.2.2.1
   by_cases h3:3<=Lb
   ·have LW:=hid (ytd wr r r' k k' A B La Lb hLa hLb SA SB h3 HR.out.2.2.2.1 hLs)
    clear hLa hLb SA SB z0
    go_wp2_with fail
    refine LW.out.mono ?_
    rintro e w1 ⟨A',B',r1,r2,k1,k2,rfl,D⟩
    have HD:=hid D
    clear D
    go_wp2_with fail
    go_roundg B'
    case measure=>have:=HD.out.2.2.2.1; have:=HD.out.2.2.2.2.1; omega
    case rel =>
     obtain ⟨e1,e2,e3,e4,e5,e6⟩:=HD.out
     obtain ⟨f1,f2,f3,f4,f5,f6⟩:=HR.out
     refine ⟨A',B',r1,r2,k1,k2,zha _,rfl,rfl,f1.trans (e3.mono f1.size),e1,e2,by omega,by rw [e6]; exact f5,?_⟩
     have:=yag e5
     have:=HLb.out
     omega
   ·by_cases hB:B=0
    ·subst hB
     have hz:Lb=0:=z0.2 rfl
     subst hz
     have hA:A=G:=by have:=HR.out.2.2.2.2.1; rwa [zk2] at this
     have NM:=hid (yyj wr r La k A SA.numd 70368744177664 (by omega) (by omega))
     clear hLa hLb SA SB z0
     go_wp2_with fail
     refine NM.out.mono ?_
     rintro e w1 ⟨r1,k1,rfl,R1,_⟩
     have HR1:=hid R1
     clear R1
     go_wp2_with fail
     go_ret
     rw [← hA]
     exact ⟨r1,k1,rfl,HR1.out.since HR.out.1⟩
    ·have hz:Lb≠0:=fun e=>hB (z0.1 e)
     have hB1:B < 18446744073709551616:=by
      have:=ygs (ybo B) (by rw [hLb]; omega)
      rwa [yaf] at this
     have hmod:=zic A (zhw hB)
     have hLr:(digs (A % B)).length<=2:=zhb (yag (zi4 hmod)) (by rw [hLb]; omega)
     have DVc:=yn8 wr r r' La k Lb k' (digs A) (digs B) SA SB (by rw [yaf]; exact hB) hLs
     rw [yaf,yaf] at DVc
     have HDV:=hid DVc
     have WB:=hid (fun (W:World) (hW:Below wr.heap.size wr W)=>ykx W r' Lb k' (digs B) (SB.below hW) (by omega))
     rw [yaf] at WB
     have hgG:=ypj HR.out.2.2.2.2.1
     have HGG:=hid hgG
     have hGb:Nat.gcd B (A % B) < 18446744073709551616:=zij (Nat.gcd_le_left _ (zhw hB)) hB1
     clear hLa hLb SA SB z0 DVc hgG
     go_wp2_with fail
     refine HDV.out.mono ?_
     rintro e w1 ⟨rq,cq,rs,cs,rfl,R1,R2,_⟩
     have HR2:=hid R2
     clear R1 R2
     obtain ⟨Lr,hLrr⟩:∃ L,(digs (A % B)).length=L:=⟨_,rfl⟩
     rw [hLrr] at hLr ⊢
     have WR:=ykx w1 rs Lr cs (digs (A % B)) (by rw [← hLrr]; exact HR2.out.sl) hLr
     rw [yaf] at WR
     have HWR:=hid WR
     clear hLrr WR
     have hMb:A % B < 18446744073709551616:=by omega
     go_wp2_with fail
     refine (WB.out w1 HR2.out.below).mono ?_
     rintro e w2 ⟨rfl,rfl⟩
     go_wp2_with fail
     refine HWR.out.mono ?_
     rintro e w3 ⟨rfl,rfl⟩
     go_wp2_with fail
     refine (ykd _ B (A % B) hB1 hMb).mono ?_
     rintro e w4 ⟨rfl,nq2,rfl⟩
     go_wp2_with fail
     refine (ylg _ (Nat.gcd B (A % B)) hGb).mono ?_
     rintro e w5 ⟨r5,k5,rfl,R5⟩
     have HR5:=hid R5
     clear R5
     go_wp2_with fail
     go_ret
     rw [HGG.out] at HR5 ⊢
     exact ⟨r5,k5,rfl,HR5.out.since (HR.out.1.trans ((ybq HR2.out.below nq2).mono HR.out.1.size))⟩
 ·have hcm:=yzq hge
  obtain ⟨cm,hcmv⟩:∃ cm,cmpN X Y=cm:=⟨_,rfl⟩
  have GS:Hid (∀ nq,∃ (A B:Nat) (r r':Option Addr) (k k':Nat),B<=X+Y/\Value.slice pa la c=.slice r (digs A).length k/\Value.slice pb lb d=.slice r' (digs B).length k'/\Hid (GI w (w.drewN nq) G A B r r' k k')):=by
   intro nq
   refine ⟨X,Y,pa,pb,c,d,by omega,by rw [HLA.out],by rw [HLB.out],?_⟩
   have hb:=ybq (Below.refl w.heap.size w) nq
   refine ⟨hb,?_,?_,by omega,HG.out,by rw [HLA.out]; omega⟩
   ·rw [HLA.out]; exact HS1.out.below hb
   ·rw [HLB.out]; exact HS2.out.below hb
  rw [hcmv] at HCM hcm
  clear hcmv hge
  go_enter Tryz.func120,Tryz.ntmps120
  go_wp2_with fail
  refine T1.out.mono ?_
  rintro e w' ⟨rfl,rfl⟩
  go_wp2_with fail
  refine T2.out.mono ?_
  rintro e w' ⟨rfl,rfl⟩
  go_wp2_with fail
  refine HCM.out.mono ?_
  rintro e w'' ⟨rfl,nq,rfl⟩
  have GT:=GS.out nq
  clear GS
  go_wp2_with fail
  go_loopg [0,1] (X+Y) (fun gk s0 s1 wr=>∃ (A B:Nat) (r r':Option Addr) (k k':Nat),B<=gk/\s0=.slice r (digs A).length k/\s1=.slice r' (digs B).length k'/\Hid (GI w' wr G A B r r' k k'))
  case atStart=>exact GT
  case round =>
   obtain ⟨A,B,r,r',k,k',hk,rfl,rfl,HR⟩:=hrel
   obtain ⟨La,hLa⟩:∃ L,(digs A).length=L:=⟨_,rfl⟩
   obtain ⟨Lb,hLb⟩:∃ L,(digs B).length=L:=⟨_,rfl⟩
   have z0:=ya2 B
   rw [hLb] at z0
   rw [hLa,hLb]
   have HLa:=hid hLa
   have HLb:=hid hLb
   have hLab:Lb<=La:=by rw [← hLa,← hLb]; exact yag HR.out.2.2.2.1
   have hLs:La+1<=70368744177664:=by rw [← hLa]; exact HR.out.2.2.2.2.2
   have SA:Sl wr r La k (digs A):=by rw [← hLa]; exact HR.out.2.1
   have SB:Sl wr r' Lb k' (digs B):=by rw [← hLb]; exact HR.out.2.2.1
   by_cases h3:3<=Lb
   ·have LW:=hid (ytd wr r r' k k' A B La Lb hLa hLb SA SB h3 HR.out.2.2.2.1 hLs)
    clear hLa hLb SA SB z0
    go_wp2_with fail
    refine LW.out.mono ?_
    rintro e w1 ⟨A',B',r1,r2,k1,k2,rfl,D⟩
    have HD:=hid D
    clear D
    go_wp2_with fail
    go_roundg B'
    case measure=>have:=HD.out.2.2.2.1; have:=HD.out.2.2.2.2.1; omega
    case rel =>
     obtain ⟨e1,e2,e3,e4,e5,e6⟩:=HD.out
     obtain ⟨f1,f2,f3,f4,f5,f6⟩:=HR.out
     refine ⟨A',B',r1,r2,k1,k2,zha _,rfl,rfl,f1.trans (e3.mono f1.size),e1,e2,by omega,by rw [e6]; exact f5,?_⟩
     have:=yag e5
     have:=HLb.out
     omega
   ·by_cases hB:B=0
    ·subst hB
     have hz:Lb=0:=z0.2 rfl
     subst hz
     have hA:A=G:=by have:=HR.out.2.2.2.2.1; rwa [zk2] at this
     have NM:=hid (yyj wr r La k A SA.numd 70368744177664 (by omega) (by omega))
     clear hLa hLb SA SB z0
     go_wp2_with fail
     refine NM.out.mono ?_
     rintro e w1 ⟨r1,k1,rfl,R1,_⟩
     have HR1:=hid R1
     clear R1
     go_wp2_with fail
     go_ret
     rw [← hA]
     exact ⟨r1,k1,rfl,HR1.out.since HR.out.1⟩
    ·have hz:Lb≠0:=fun e=>hB (z0.1 e)
     have hB1:B < 18446744073709551616:=by
      have:=ygs (ybo B) (by rw [hLb]; omega)
      rwa [yaf] at this
     have hmod:=zic A (zhw hB)
     have hLr:(digs (A % B)).length<=2:=zhb (yag (zi4 hmod)) (by rw [hLb]; omega)
     have DVc:=yn8 wr r r' La k Lb k' (digs A) (digs B) SA SB (by rw [yaf]; exact hB) hLs
     rw [yaf,yaf] at DVc
     have HDV:=hid DVc
     have WB:=hid (fun (W:World) (hW:Below wr.heap.size wr W)=>ykx W r' Lb k' (digs B) (SB.below hW) (by omega))
     rw [yaf] at WB
     have hgG:=ypj HR.out.2.2.2.2.1
     have HGG:=hid hgG
     have hGb:Nat.gcd B (A % B) < 18446744073709551616:=zij (Nat.gcd_le_left _ (zhw hB)) hB1
     clear hLa hLb SA SB z0 DVc hgG
     go_wp2_with fail
     refine HDV.out.mono ?_
     rintro e w1 ⟨rq,cq,rs,cs,rfl,R1,R2,_⟩
     have HR2:=hid R2
     clear R1 R2
     obtain ⟨Lr,hLrr⟩:∃ L,(digs (A % B)).length=L:=⟨_,rfl⟩
     rw [hLrr] at hLr ⊢
     have WR:=ykx w1 rs Lr cs (digs (A % B)) (by rw [← hLrr]; exact HR2.out.sl) hLr
     rw [yaf] at WR
     have HWR:=hid WR
     clear hLrr WR
     have hMb:A % B < 18446744073709551616:=by omega
     go_wp2_with fail
     refine (WB.out w1 HR2.out.below).mono ?_
     rintro e w2 ⟨rfl,rfl⟩
     go_wp2_with fail
     refine HWR.out.mono ?_
     rintro e w3 ⟨rfl,rfl⟩
     go_wp2_with fail
     refine (ykd _ B (A % B) hB1 hMb).mono ?_
     rintro e w4 ⟨rfl,nq2,rfl⟩
     go_wp2_with fail
     refine (ylg _ (Nat.gcd B (A % B)) hGb).mono ?_
     rintro e w5 ⟨r5,k5,rfl,R5⟩
     have HR5:=hid R5
     clear R5
     go_wp2_with fail
     go_ret
     rw [HGG.out] at HR5 ⊢
     exact ⟨r5,k5,rfl,HR5.out.since (HR.out.1.trans ((ybq HR2.out.below nq2).mono HR.out.1.size))⟩
end Go.Proofs.YtdnindaohpdblaaGreat
