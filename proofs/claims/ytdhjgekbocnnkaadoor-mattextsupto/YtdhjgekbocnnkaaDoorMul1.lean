/-
  math/bits.Mul of one and a count.
-/
import Derived.Test.YtdhjgekbocnnkaaDoorSetA
import Derived.Shelf.Bits.Mul64
namespace Go.Proofs.YtdhjgekbocnnkaaDoor
open Go Go.RowKit Nt
set_option linter.unusedSimpArgs false
set_option linter.unusedVariables false
set_option maxRecDepth 20000
set_option maxHeartbeats 1000000 in
theorem mul64_1 (w : World) (h : Nat) (hh : h < 4294967296) : Calls Tryd.prog 91 #[.int .u64 1, .int .u64 (h : Nat)] w fun e w' => e = .returned (.tuple #[.int .u64 0, .int .u64 (h : Nat)]) ∧ w' = w := by
  have m1 : bits .and .u64 (1 : Int) 4294967295 = 1 := by
    have := bits_and_u64_nat 1 4294967295 (by omega) (by omega)
    exact this
  have mh : bits .and .u64 (h : Int) 4294967295 = (h : Int) := by
    have := bits_and_u64_nat h 4294967295 (by omega) (by omega)
    rw [show h &&& 4294967295 = h from by
      have e := Nat.and_two_pow_sub_one_eq_mod h 32
      rw [show (2 : Nat) ^ 32 - 1 = 4294967295 from by decide] at e
      rw [e]
      exact Nat.mod_eq_of_lt hh] at this
    exact this
  have m0 : bits .and .u64 (0 : Int) 4294967295 = 0 := by
    have := bits_and_u64_nat 0 4294967295 (by omega) (by omega)
    exact this
  have dh : (h : Int) / 4294967296 = 0 := by omega
  have wh : IntKind.u64.wrap (h : Int) = (h : Int) := by rw [IntKind.wrap_u64]; omega
  go_enter Tryd.func91, Tryd.ntmps91
  go_wp2
  refine bodyPost_ret (by simp [results, Tryd.results91, go_sem]; try rfl) rfl ⟨?_, rfl⟩
  simp
theorem mul1 (w : World) (h : Nat) (hh : h < 4294967296) : Calls Tryd.prog 83 #[.int .u64 1, .int .u64 (h : Nat)] w fun e w' => e = .returned (.tuple #[.int .u64 0, .int .u64 (h : Nat)]) ∧ w' = w := by
  have c64 := hid (mul64_1 w h hh)
  go_enter Tryd.func83, Tryd.ntmps83
  go_wp2_with (go_at_call 91; refine c64.out.mono ?_; rintro e w' ⟨rfl, hw⟩; rw [hw])
  exact bodyPost_ret (by simp [results, Tryd.results83, go_sem]; try rfl) rfl ⟨rfl, rfl⟩
end Go.Proofs.YtdhjgekbocnnkaaDoor
