/-
  nat.gcdWords: Euclid's rest by rest, of words.
-/
import Derived.Test.YtblmlhhicpomkaaEuclid
namespace Go.Proofs.Ytblmlhhicpomkaa
open Go.RowKit Nt
set_option linter.unusedSimpArgs false
set_option linter.unusedVariables false

set_option maxHeartbeats 1000000 in
theorem gcdWords_c (w : World) (a b : Nat) (ha : a < 18446744073709551616) (hb : b < 18446744073709551616) :
    Calls Try.prog 36 #[.int .u64 a, .int .u64 b] w fun e w' => e = .returned (.int .u64 (Nat.gcd a b : Nat)) ∧ ∃ nq, w' = w.drewN nq := by
  go_enter Try.func36, Try.ntmps36
  go_wp2
  go_loopw [0, 1] (fun xv yv wr => ∃ x y : Nat, (∃ nq, wr = w.drewN nq) ∧ xv = .int .u64 x ∧ yv = .int .u64 y ∧ x < 18446744073709551616 ∧ y < 18446744073709551616 ∧ Hid (Nat.gcd x y = Nat.gcd a b)) (fun _ yv _ => (intOf yv).toNat)
  case atStart => exact ⟨a, b, dr0 _, rfl, rfl, ha, hb, rfl⟩
  case round =>
    obtain ⟨x, y, ⟨nq, rfl⟩, rfl, rfl, hx, hy, HG⟩ := hrel
    by_cases h0 : y = 0
    · subst h0
      go_wp2
      go_ret
      have := HG.out
      rw [Nat.gcd_zero_right] at this
      rw [← this]
      exact ⟨rfl, dr1 _ _⟩
    · have hp : 1 ≤ y := by omega
      clear h0
      have hm : x % y < y := Nat.mod_lt _ (by omega)
      go_wp2_with fail
      go_quiet (fail)
      go_wp2
      go_roundw
      case rel =>
        refine ⟨y, x % y, dr2 _ _ _, rfl, ?_, hy, by omega, ?_⟩
        · go_num
        · rw [← HG.out, Nat.gcd_comm y, ← Nat.gcd_rec, Nat.gcd_comm]; exact rfl
      case measure => simp [intOf]; omega
end Go.Proofs.Ytblmlhhicpomkaa
