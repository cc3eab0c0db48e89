import Derived.Test.YtdiagoaakadniaaGreatHxA
import Derived.Test.YtdiagoaakadniaaGreatGsA
import Derived.Test.YtdiagoaakadniaaGreatGsB
import Derived.Test.YtdiagoaakadniaaGreatSetV
import Derived.Test.YtdiagoaakadniaaGreatMkA
import Derived.Test.YtdiagoaakadniaaGreatGsD
namespace Go.Proofs.YtdiagoaakadniaaGreat
open Go Go.RowKit Nt
set_option linter.unusedSimpArgs false
set_option linter.unusedVariables false
set_option maxRecDepth 20000
set_option maxHeartbeats 16000000
section
variable {ops : Array Oper} {l : List Kd} {bx : Bxs} {sl : List (Tmp × Pr)} {i : Nat} {o : Oper} {Q : Exit → Act → World → Prop} {a0 : Act} {n : Nat} {w0 : World}
end

section
variable {G : Nat → Nat → Int} {mm KK : Nat}
theorem yfh (hp : ∀ m, m ≤ mm → 0 < Dt.det m G) {k : Nat} (hk : k ≤ mm) : (dt G k : Int) = Dt.det k G := by
 have := hp k hk
 unfold dt
 omega
theorem ydk (hp : ∀ m, m ≤ mm → 0 < Dt.det m G) {k : Nat} (hk : k ≤ mm) : dt G k ≠ 0 := by
 have := hp k hk
 have := yfh hp hk
 omega
theorem yk4 (hp : ∀ m, m ≤ mm → 0 < Dt.det m G) {k : Nat} (hk : k ≤ mm) : Dt.Lead G k := fun m hm => Int.ne_of_gt (hp m (by omega))
end
theorem qq_sign {P : Int} {Q : Nat} (hQ : Q ≠ 0) : (nR P Q).sign = P.sign := by
 have h := ykc (P := P) hQ
 have hd := ye7 (X := P) hQ
 have h1 : (nR P Q * (Q : Int)).sign = (P * (dR P Q : Int)).sign := by rw [h]
 rw [Int.sign_mul, Int.sign_mul, Int.sign_eq_one_of_pos (show (0 : Int) < (Q : Int) by omega), Int.sign_eq_one_of_pos (show (0 : Int) < (dR P Q : Int) by omega), Int.mul_one, Int.mul_one] at h1
 exact h1
theorem yd5 {a b k l : Nat} (h1 : (digs a).length ≤ k) (h2 : (digs b).length ≤ l) : (digs (a * b)).length ≤ k + l := Nat.le_trans (yap h1 h2) (Nat.le_refl _)
theorem ybx {a b : Int} {k l : Nat} (h1 : (digs a.natAbs).length ≤ k) (h2 : (digs b.natAbs).length ≤ l) : (digs (a * b).natAbs).length ≤ k + l := by rw [Int.natAbs_mul]; exact yd5 h1 h2
abbrev qs (l : List (Int × Nat)) : List (Nat → Pr) := l.map (fun p => QQ p.1 p.2)
end Go.Proofs.YtdiagoaakadniaaGreat
