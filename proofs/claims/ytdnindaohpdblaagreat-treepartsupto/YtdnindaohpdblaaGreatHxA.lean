import Derived.Test.YtdnindaohpdblaaGreatGsD
set_option linter.all false
namespace Go.Proofs.YtdnindaohpdblaaGreat
open Go Go.RowKit Nt
set_option maxRecDepth 20000
set_option maxHeartbeats 16000000
section
variable {ops:Array Oper} {l:List Kd} {bx:Bxs} {sl:List (Tmp × Pr)} {i:Nat} {o:Oper} {Q:Exit->Act->World->Prop} {a0:Act} {n0:Nat} {w0:World}
end
section
variable {ops:Array Oper} {l:List Kd} {bx:Bxs} {sl:List (Tmp × Pr)} {i:Nat} {o:Oper} {Q:Exit->Act->World->Prop} {a0:Act} {n0:Nat} {w0:World}
end
end Go.Proofs.YtdnindaohpdblaaGreat

namespace Go.Proofs.YtdnindaohpdblaaGreat
open Go Go.RowKit
set_option maxRecDepth 20000
set_option maxHeartbeats 16000000
section
variable {P:Program} {ops:Array Oper} {Q:Exit->Act->World->Prop} {l l':List Kd} {bx:Bxs} {sl:List (Tmp × Pr)} {n:Nat} {B0:Nat->Prop} {a0:Act} {W w0:World} {L:Nat->Bool}
variable {lv:Value->List Kd} {j:Nat}
end
end Go.Proofs.YtdnindaohpdblaaGreat

namespace Go.Proofs.YtdnindaohpdblaaGreat
open Go Go.RowKit Nt
set_option maxRecDepth 20000
set_option maxHeartbeats 16000000
section
variable {ops:Array Oper} {l:List Kd} {bx:Bxs} {sl:List (Tmp × Pr)} {i:Nat} {o:Oper} {Q:Exit->Act->World->Prop} {a0:Act} {n0:Nat} {w0:World}
end
theorem ydd:Idx 39 4:=fun ρ o x y w b k i n c hi hx hy=>by
 unfold execOp
 go_simp
theorem yc6:Ldr 26 4:=yhi (by decide) yaj
theorem ygm:Bld 39 26 4:=fun ρ o x w u hu hx=>by
 have e:=hu.of
 rw [ofCells,if_neg (by decide)] at e
 obtain ⟨l,hl⟩:∃ l,u.cells=⟨l⟩:=⟨u.cells.toList,by simp⟩
 have hs:=hu.siz
 have ho:=hu.one
 rw [hl] at e hs ho ⊢
 match l,hs with
 | [y,z,y',z'],_ =>
  clear hu hl
  subst e
  simp at ho
  obtain ⟨h1,h2,h3,h4⟩:=ho
  unfold execOp
  go_simp
section
variable {ops:Array Oper} {l:List Kd} {bx:Bxs} {sl:List (Tmp × Pr)} {i:Nat} {o:Oper} {Q:Exit->Act->World->Prop} {a0:Act} {n0:Nat} {w0:World}
end
theorem yrc:Load1 39:=fun ρ w o x b f u hx hc=>by
 unfold execOp
 go_simp
end Go.Proofs.YtdnindaohpdblaaGreat
