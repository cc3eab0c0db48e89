/-
  IvalNames: the one call on the road of that law, and its walk.
-/
import Derived.Test.YtgalppimdmjdcabSlices
import Derived.Deep.RegionHeld3
import Derived.Handy
import Derived.Laws.Cover2
namespace Go.Proofs.Ytgalppimdmjdcab
open Go.RowKit Nt
set_option linter.unusedSimpArgs false
set_option linter.unusedVariables false

theorem below_alloc' (w : World) (o : Obj) : Below w.heap.size w (w.alloc o) := (Below.refl _ _).alloc (Nat.le_refl _) _
theorem ord_21 : FloatKind.f64.format.order 4611686018427387904 4607182418800017408 = some .gt := by decide
theorem ord_00 : FloatKind.f64.format.order 0 0 = some .eq := by decide
theorem valid_21 (w : World) : Calls Try.prog 4 #[.agg #[.float .f64 4611686018427387904, .float .f64 4607182418800017408]] w fun e w' => e = .returned (.int .i64 90) ∧ Below w.heap.size w w' := by
  have HG := hid (below_alloc' w (.cells #[.float .f64 4611686018427387904, .float .f64 4607182418800017408] 26))
  go_enter Try.func4, Try.ntmps4
  go_wp2
  simp [ord_21]
  go_wp2
  go_ret
  exact ⟨rfl, HG.out⟩
theorem valid_00 (w : World) : Calls Try.prog 4 #[.agg #[.float .f64 0, .float .f64 0]] w fun e w' => e = .returned (.int .i64 0) ∧ Below w.heap.size w w' := by
  have HG := hid (below_alloc' w (.cells #[.float .f64 0, .float .f64 0] 26))
  go_enter Try.func4, Try.ntmps4
  go_wp2
  simp [ord_00]
  go_wp2
  go_ret
  exact ⟨rfl, HG.out⟩
theorem ivalNames_walk (w : World) : Calls Try.prog 3 #[] w fun e w' => e = .returned (.bool true) ∧ Below w.heap.size w w' := by
  have V1 := hid (fun W => valid_21 W)
  have V2 := hid (fun W => valid_00 W)
  go_enter Try.func3, Try.ntmps3
  go_wp2_with fail
  refine (V1.out _).mono ?_
  rintro e w1 ⟨rfl, h1⟩
  go_wp2_with fail
  refine (V2.out _).mono ?_
  rintro e w2 ⟨rfl, h2⟩
  go_wp2
  go_ret
  exact ⟨rfl, h1.trans (h2.mono h1.size)⟩
end Go.Proofs.Ytgalppimdmjdcab
