/-
  The calls of nat and zint, and of the laws, in the form that the logic of statements takes.
-/
import Derived.Test.YtcljffdkonapeaaSetQ
import Derived.Test.YtcljffdkonapeaaSetI
import Derived.Test.YtcljffdkonapeaaSetP
import Derived.Test.YtcljffdkonapeaaSetX
import Derived.Test.YtcljffdkonapeaaSetZ
import Derived.Test.YtcljffdkonapeaaPower
import Derived.Test.YtcljffdkonapeaaSetU
namespace Go.Proofs.Ytcljffdkonapeaa
open Go Go.RowKit Nt
set_option linter.unusedSimpArgs false
set_option linter.unusedVariables false

theorem nm_zn {w : World} {b : Bool} {L : Nat} {D : List Nat} {z : Int} {r : Option Addr} {c lo : Nat} (h : Nm b L D z) (hs : Sl w r L c D) (hf : ∀ b o, r = some ⟨b, o, none⟩ → lo ≤ b) : ZN z lo (.agg #[.bool b, .slice r L c]) w := by
  obtain ⟨rfl, rfl, rfl⟩ := h
  exact ⟨r, c, rfl, hs, hf⟩

theorem g_zof (n : Int) (h1 : -9223372036854775808 ≤ n) (h2 : n < 9223372036854775808) : ∀ w u, Is (.int .i64 n) u w → Calls Try.prog 12 #[u] w (Gives (ZN n) w) := fun w u e => by
  obtain rfl : u = _ := e
  refine (zof_c w n h1 h2).mono ?_
  rintro e w' ⟨r, cr, rfl, Z⟩
  exact za_gives Z
end Go.Proofs.Ytcljffdkonapeaa
