/-
 The calls of nat and zint, and of the laws, in the form that the logic of statements takes.
-/
import Derived.Test.YthmccopeigpelaaGreatSetQ
import Derived.Test.YthmccopeigpelaaGreatSetI
import Derived.Test.YthmccopeigpelaaGreatSetP
import Derived.Test.YthmccopeigpelaaGreatSetX
import Derived.Test.YthmccopeigpelaaGreatSetZ
import Derived.Test.YthmccopeigpelaaGreatPower
import Derived.Test.YthmccopeigpelaaGreatSetU
namespace Go.Proofs.YthmccopeigpelaaGreat
open Go Go.RowKit Nt
set_option linter.unusedSimpArgs false
set_option linter.unusedVariables false
set_option maxRecDepth 20000

theorem nm_zn {w : World} {b : Bool} {L : Nat} {D : List Nat} {z : Int} {r : Option Addr} {c lo : Nat} (h : Nm b L D z) (hs : Sl w r L c D) (hf : ∀ b o, r = some ⟨b, o, none⟩ → lo ≤ b) : ZN z lo (.agg #[.bool b, .slice r L c]) w := by
 obtain ⟨rfl, rfl, rfl⟩ := h
 exact ⟨r, c, rfl, hs, hf⟩

theorem g_zof (n : Int) (h1 : -9223372036854775808 ≤ n) (h2 : n < 9223372036854775808) : ∀ w u, Is (.int .i64 n) u w → Calls Tryz.prog 27 #[u] w (Gives (ZN n) w) := fun w u e => by
 obtain rfl : u = _ := e
 refine (zof_c w n h1 h2).mono ?_
 rintro e w' ⟨r, cr, rfl, Z⟩
 exact za_gives Z
end Go.Proofs.YthmccopeigpelaaGreat
