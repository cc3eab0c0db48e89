import Derived.Test.YtgalppimdmjdcabGreatDoorSetA
import Derived.Test.YtgalppimdmjdcabGreatDoorSetU
import Derived.Test.YtgalppimdmjdcabGreatDoorSetB
import Derived.Test.YtgalppimdmjdcabGreatDoorSetK
import Derived.Test.YtgalppimdmjdcabGreatDoorPower
import Derived.Test.YtgalppimdmjdcabGreatDoorRewritten
import Derived.Deep.LoopGhost
import Derived.Test.YtgalppimdmjdcabGreatDoorSetP
/-
  Plain mathematics, no Go: Newton's step on the highest bits of a number, for the root.
-/
namespace Go.Proofs.YtgalppimdmjdcabGreatDoor.Nt

end Go.Proofs.YtgalppimdmjdcabGreatDoor.Nt

/-
  nat.Root: Newton's steps, each with twice as many bits.
-/
namespace Go.Proofs.YtgalppimdmjdcabGreatDoor
open Go.RowKit Nt
set_option linter.unusedSimpArgs false
set_option linter.unusedVariables false
set_option maxRecDepth 20000

theorem bl_len {X n : Nat} (h : (digs X).length ≤ n) : Go.bitLen X ≤ 32 * n := by
  obtain ⟨s1, s2⟩ := bitLen_spec X
  by_cases h0 : X = 0
  · rw [h0, show Go.bitLen 0 = 0 from rfl]; omega
  · have s3 := s2 h0
    apply Classical.byContradiction
    intro hc
    have h1 := lt_pow_digs X
    have h2 : (4294967296 : Nat) ^ (digs X).length ≤ 4294967296 ^ n := Nat.pow_le_pow_right (by omega) h
    have h3 : (4294967296 : Nat) ^ n = 2 ^ (32 * n) := by rw [Nat.pow_mul]
    have h4 : 2 ^ (32 * n) ≤ 2 ^ (Go.bitLen X - 1) := Nat.pow_le_pow_right (by omega) (by omega)
    omega

end Go.Proofs.YtgalppimdmjdcabGreatDoor

/-
  The document's Root: bit by bit from the top.
-/
namespace Go.Proofs.YtgalppimdmjdcabGreatDoor
open Go.RowKit Nt
set_option linter.unusedSimpArgs false
set_option linter.unusedVariables false
set_option maxRecDepth 20000

end Go.Proofs.YtgalppimdmjdcabGreatDoor
