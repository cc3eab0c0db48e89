import Derived.Test.YtdnindaohpdblaaGreatDtA
import Derived.Test.YtdnindaohpdblaaGreatHxA
set_option linter.all false
namespace Go.Proofs.YtdnindaohpdblaaGreat
open Go Go.RowKit Nt
set_option maxRecDepth 20000
set_option maxHeartbeats 16000000
def gr (Bm : List (List Int)) : Nat → Nat → Int := fun r c => dotR (Bm.getD r []) (Bm.getD c [])
theorem yxl {A B q : Int} (hB : B ≠ 0) (h : A = B * q) : fl A B = q ∧ rm A B = 0 :=
 yet hB (by rw [h, zez]; omega) (fun h => ⟨by omega, h⟩) (fun h => ⟨h, by omega⟩)
section
variable {G : Dt.Mt} {D L M : List Int} {i j K : Nat}
end


section
variable {ops : Array Oper} {l : List Kd} {bx : Bxs} {sl : List (Tmp × Pr)} {i : Nat} {o : Oper} {Q : Exit → Act → World → Prop} {a0 : Act} {n : Nat} {w0 : World}
end





section
variable {G : Nat → Nat → Int} {mm KK : Nat}
end
abbrev qs (l : List (Int × Nat)) : List (Nat → Pr) := l.map (fun p => QQ p.1 p.2)


end Go.Proofs.YtdnindaohpdblaaGreat
