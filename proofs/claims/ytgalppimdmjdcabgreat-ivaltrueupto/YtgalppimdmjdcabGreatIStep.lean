/-
  IvalSteps.
-/
import Derived.Test.YtgalppimdmjdcabGreatFExMath
import Derived.Test.YtgalppimdmjdcabGreatIAwake
import Derived.Test.YtgalppimdmjdcabGreatIVal1
namespace Go.Proofs.YtgalppimdmjdcabGreat
open Go Go.RowKit Nt
set_option linter.unusedSimpArgs false
set_option linter.unusedVariables false
set_option maxRecDepth 20000

theorem kl_len {K L N : Nat} (hK : K ≤ 9007199254740992) (hL : L ≤ N) : (digs (K * 2 ^ L)).length ≤ 53 + N + 1 := by
  have h3 : K * 2 ^ L ≤ 2 ^ 53 * 2 ^ N := Nat.mul_le_mul hK (Nat.pow_le_pow_right (by decide) hL)
  rw [← Nat.pow_add] at h3
  exact Nat.le_trans (digs_length_mono h3) (pw_len (Nat.le_refl _))
theorem mg_len {r : Nat} (h : r < 9218868437227405312) : (digs (mg r)).length ≤ 2200 := by
  obtain ⟨L, K, e, h1, h2⟩ := mg_split r
  rw [e, mg_form (by omega) h2]
  exact Nat.le_trans (kl_len (N := 2047) (by omega) (by omega)) (by decide)
theorem pw2_len (n : Nat) : (digs (pw2 n)).length ≤ n + 1 := pw_len (Nat.le_refl n)
theorem vp_abs (p : Int) : (vp p).natAbs = mg p.natAbs := by unfold vp; split <;> omega
theorem exn_len {p : Int} (h : Fin p) : (digs (nR (vp p) uF).natAbs).length ≤ 2200 := nR_len (by rw [vp_abs]; exact mg_len (by unfold Fin at h; omega))
theorem exd_len (p : Int) : (digs (dR (vp p) uF)).length ≤ 2200 := dR_len (Nat.le_trans (pw2_len 1074) (by decide))
section
variable {ops : Array Oper} {l : List Kd} {bx : Bxs} {sl : List (Tmp × Pr)} {i : Nat} {o : Oper} {Q : Exit → Act → World → Prop} {a0 : Act} {n : Nat} {w0 : World}
end
end Go.Proofs.YtgalppimdmjdcabGreat
