/-
  nat.order, nat.Cmp.
-/
import Derived.Test.YtgalppimdmjdcabTrim
namespace Go.Proofs.Ytgalppimdmjdcab
open Go.RowKit Nt
set_option linter.unusedSimpArgs false
set_option linter.unusedVariables false

/-- -1, 0, 1 -/
def cmpN (a b : Nat) : Int := if a < b then -1 else if a = b then 0 else 1

def ordB (b : Bool) : Int := if b then -1 else 1

/-- The first limb, from the top, in which they differ decides. -/
theorem cmp_at {xs ys : List Nat} (hl : xs.length = ys.length) (hx : Ok xs) {k : Nat} (hk : k < xs.length)
    (he : ∀ j, k < j → j < xs.length → xs.getD j 0 = ys.getD j 0) (hlt : xs.getD k 0 < ys.getD k 0) : val xs < val ys := by
  have e1 := val_split xs (k + 1) (by omega)
  have e2 := val_split ys (k + 1) (by omega)
  have hd : xs.drop (k + 1) = ys.drop (k + 1) := by
    apply List.ext_getElem (by simp [hl])
    intro i h1 h2
    have h3 : k + 1 + i < xs.length := by simp at h1; omega
    have h4 : k + 1 + i < ys.length := by omega
    have := he (k + 1 + i) (by omega) h3
    simpa [h3, h4] using this
  rw [hd] at e1
  rw [val_take_succ xs k hk] at e1
  rw [val_take_succ ys k (by omega)] at e2
  have b1 := val_lt (hx.take k)
  rw [List.length_take, Nat.min_eq_left (by omega)] at b1
  have b2 : 4294967296 ^ k * (xs.getD k 0 + 1) ≤ 4294967296 ^ k * ys.getD k 0 := Nat.mul_le_mul_left _ hlt
  rw [Nat.mul_add] at b2
  omega

theorem cmp_len {a b : Nat} (h : (digs a).length < (digs b).length) : a < b := by
  apply Classical.byContradiction
  intro hc
  have := digs_length_mono (Nat.le_of_not_lt hc)
  omega

end Go.Proofs.Ytgalppimdmjdcab
