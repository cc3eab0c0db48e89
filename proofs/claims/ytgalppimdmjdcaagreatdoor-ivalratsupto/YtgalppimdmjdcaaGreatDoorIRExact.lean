/-
  The document's Exact.
-/
import Derived.Test.YtgalppimdmjdcaaGreatDoorIfG
import Derived.Test.YtgalppimdmjdcaaGreatDoorFlC
import Derived.Test.YtgalppimdmjdcaaGreatDoorFlB
import Derived.Test.YtgalppimdmjdcaaGreatDoorSetS
namespace Go.Proofs.YtgalppimdmjdcaaGreatDoor
open Go Go.RowKit Nt
set_option linter.unusedSimpArgs false
set_option linter.unusedVariables false
set_option maxRecDepth 20000

theorem g_rmulI {x y ka kb : Nat} (hk : ka + kb ≤ 35184372088832) : ∀ w u v, Nv x ka u w → Nv y kb v w → Calls Tryz.prog 77 #[u, v] w (Gives (NN (x * y)) w) := by
  rintro w u v ⟨p, n, c, xs, rfl, h, rfl, hn⟩ ⟨q, m, d, ys, rfl, h', rfl, hm⟩
  refine (rmul_c w p q n c m d xs ys h h' (by omega)).mono ?_
  rintro e w' ⟨r, cr, rfl, A⟩
  exact ⟨_, rfl, A.below, ans_nn A⟩
end Go.Proofs.YtgalppimdmjdcaaGreatDoor
