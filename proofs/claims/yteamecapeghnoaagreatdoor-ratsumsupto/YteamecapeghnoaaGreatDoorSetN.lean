import Derived.Test.YteamecapeghnoaaGreatDoorRProd0
import Derived.Test.YteamecapeghnoaaGreatDoorSetW
/-
  rat.Make and rat.lowest of a numerator and a denominator by their names.
-/
namespace Go.Proofs.YteamecapeghnoaaGreatDoor
open Go.RowKit Nt
set_option linter.unusedSimpArgs false
set_option linter.unusedVariables false
set_option maxRecDepth 20000

theorem lowest_any (W : World) (b : Bool) (L : Nat) (D : List Nat) (r : Option Addr) (cr L' : Nat) (r' : Option Addr) (cr' : Nat) (P : Int) (Y : Nat) (hr : Sl W r L cr D) (hN : Nm b L D P) (hr' : Sl W r' L' cr' (digs Y)) (hY : Y ≠ 0) (hl : L ≤ 67108864) (hl' : L' ≤ 67108864) :
    Calls Tryz.prog 43 #[.agg #[.bool b, .slice r L cr], .agg #[.bool false, .slice r' L' cr']] W (Rt W (nR (sw false P) Y) (dR (sw false P) Y) L L') := by
  have := lowest_c W b r r' L cr L' cr' D (digs Y) hr hr' (by rw [val_digs]; exact hY) (by omega) (by omega)
  rw [val_digs, ← nR_sg, ← dR_sg b, hN.sg] at this
  exact this
end Go.Proofs.YteamecapeghnoaaGreatDoor

/-
  rat.Mul and rat.Div.
-/
namespace Go.Proofs.YteamecapeghnoaaGreatDoor
open Go.RowKit Nt
set_option linter.unusedSimpArgs false
set_option linter.unusedVariables false
set_option maxRecDepth 20000

end Go.Proofs.YteamecapeghnoaaGreatDoor
