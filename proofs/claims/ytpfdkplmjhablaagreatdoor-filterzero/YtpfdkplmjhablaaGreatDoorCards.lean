/-
  DERIVED. GIVEN WITH THE SEED: THE CARDS: each row of YtpfdkplmjhablaaGreatDoorRows.lean that lists a variable, with what it lists TIED to the program's text (the seventh form; the later family's looks); each row that meets fmt, with fmt's text TOLD by the authors' own Lean function (tested against real Go, not proved from fmt's source: count such statements apart). THE CARD IS WHAT COUNTS. Prove the row's statement (the work); the ties are given (YtpfdkplmjhablaaGreatDoorTie.lean); close each card by the builder's one call (the guide's Derived/Test/ToyasCard.lean, 'card_holds'). Laid BY PROGRAM, IN A SANDBOX (cutbox-door.mjs). By AI agents, Wed Nov 11 2026. No macro, syntax, notation, axiom, sorry.
-/
import Derived.Test.YtpfdkplmjhablaaGreatDoorRows
import GoSem.ClaimSeven
namespace Go.Proofs.YtpfdkplmjhablaaGreatDoor
namespace Rows

/-- THE TIED CARD OF 'trammellaw10.FilterZero'. -/
def filterZeroCard : Claim7 := { stood := { row := filterZeroRow, standIns := [], harness := (true, "90a1c6952c2fb7e09fe2913c7f557f6794ad245badd0e81480acd67bad74e0f0"), looks := false }, kinds := [], alts := [], laidByText := true, laidKinds := [.data], laidTests := true, laidLooks := .later }
def FilterZeroCardSaid : Prop := Claim7.holds Tryz.pinned (.plain (OpenSpec.ofChange filterZeroSpec)) filterZeroCard

/-- THE SECOND FORM's CARD OF 'trammellaw10.FilterZero'. -/
def filterZeroUptoCard : Claim7 := { stood := { row := filterZeroUptoRow, standIns := [], harness := (true, "90a1c6952c2fb7e09fe2913c7f557f6794ad245badd0e81480acd67bad74e0f0"), looks := false }, kinds := [], alts := [], laidByText := true, laidKinds := [.data], laidTests := true, laidLooks := .later }
def FilterZeroUptoCardSaid : Prop := Claim7.holds Tryz.pinned (.plain (OpenSpec.upto filterZeroSpec)) filterZeroUptoCard
end Rows
end Go.Proofs.YtpfdkplmjhablaaGreatDoor
