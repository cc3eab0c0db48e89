import Derived.Test.YtdiagoaakadniaaGreatMkB
import Derived.Test.YtdiagoaakadniaaGreatGlA
import Derived.Test.YtdiagoaakadniaaGreatFiC
namespace Go.Proofs.YtdiagoaakadniaaGreat
open Go Go.RowKit Nt
set_option linter.unusedSimpArgs false
set_option linter.unusedVariables false
set_option maxRecDepth 20000
set_option maxHeartbeats 16000000
section
variable {ops : Array Oper} {l : List Kd} {bx : Bxs} {sl : List (Tmp × Pr)} {i : Nat} {o : Oper} {Q : Exit → Act → World → Prop} {a0 : Act} {n : Nat} {w0 : World}
end

theorem bo_len {Bm : List (List Int)} (hb : mx (bitsM Bm) ≤ 256) (hw : ∀ r, (Bm.getD r []).length ≤ 12) {k : Nat} (hk : k < 12) (i j : Nat) : (digs (Dt.bo (gr Bm) k i j).natAbs).length ≤ 196 := by
 obtain ⟨e, he⟩ : ∃ e : Nat, e = 520 := ⟨_, rfl⟩
 exact Nat.le_trans (yai (Dt.det_abs (n := k + 1) (by omega) (fun r c _ _ => ypk hb hw _ _))) (big_pow he rfl (p256 rfl he) hk)
abbrev G0 : Nat → Pr := IS (.agg #[.slice none 0 0, .slice none 0 0])
end Go.Proofs.YtdiagoaakadniaaGreat
