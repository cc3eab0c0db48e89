import Derived.Test.YtgalppimdmjdcabGreatDoorIfA
/-
  The document's below.
-/
namespace Go.Proofs.YtgalppimdmjdcabGreatDoor
open Go Go.RowKit Nt
set_option linter.unusedSimpArgs false
set_option linter.unusedVariables false
set_option maxRecDepth 20000

end Go.Proofs.YtgalppimdmjdcabGreatDoor

/-
  The document's below answers the greatest float that is not above.
-/
namespace Go.Proofs.YtgalppimdmjdcabGreatDoor
open Go Go.RowKit Nt
set_option linter.unusedSimpArgs false
set_option linter.unusedVariables false
set_option maxRecDepth 20000

theorem bl_most {m k : Nat} (h : (digs m).length ≤ k) : Go.bitLen m ≤ 32 * k := by
  apply Classical.byContradiction
  intro hc
  have h1 := bl_gt.1 (show 32 * k < Go.bitLen m by omega)
  have h2 := lt_pow_digs m
  have h3 : 4294967296 ^ (digs m).length ≤ 4294967296 ^ k := Nat.pow_le_pow_right (by decide) h
  rw [show (4294967296 : Nat) = 2 ^ 32 from rfl, ← Nat.pow_mul, ← Nat.pow_mul] at h3
  rw [show (4294967296 : Nat) = 2 ^ 32 from rfl, ← Nat.pow_mul] at h2
  omega
theorem two_limbs {q : Nat} (h : q < 18014398509481984) : (digs q).length ≤ 2 := digs_length_le (by
  have : (4294967296 : Nat) ^ 2 = 18446744073709551616 := by decide
  omega)
/-- There is such a float. -/
theorem isfl_ex {N M : Nat} (hN : N ≠ 0) (hM : M ≠ 0) : ∃ r a, IsFl N M r a := by
  have use : ∀ L, ctQ N M L < 9007199254740992 → (L = 0 ∨ 4503599627370496 ≤ ctQ N M L) → ∃ r a, IsFl N M r a := fun L h1 h2 => by
    have fl := ct_isfl hM h1 h2
    by_cases hP : L * 4503599627370496 + ctQ N M L < 9218868437227405312
    · exact ⟨_, _, fl.1 hP⟩
    · exact ⟨_, _, fl.2 (by omega)⟩
  by_cases he : Go.bitLen N + 1074 < Go.bitLen M + 53
  · exact use 0 (ct_small hM he) (Or.inl rfl)
  · obtain ⟨L, hL⟩ : ∃ L, L + Go.bitLen M + 53 = Go.bitLen N + 1074 := ⟨Go.bitLen N + 1074 - (Go.bitLen M + 53), by omega⟩
    obtain ⟨g1, g2⟩ := ct_guess hN hM hL
    by_cases hq : ctQ N M L < 9007199254740992
    · exact use L hq (Or.inr g1)
    · have e2 := ct_step N M L
      exact use (L + 1) (by omega) (Or.inr (by omega))
end Go.Proofs.YtgalppimdmjdcabGreatDoor
