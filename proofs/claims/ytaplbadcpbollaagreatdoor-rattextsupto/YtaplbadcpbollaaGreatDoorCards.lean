/-
  DERIVED. GIVEN WITH THE SEED: THE CARDS: each row of YtaplbadcpbollaaGreatDoorRows.lean that lists a variable, with what it lists TIED to the program's text (the seventh form; the later family's looks); each row that meets fmt, with fmt's text TOLD by the authors' own Lean function (tested against real Go, not proved from fmt's source: count such statements apart). THE CARD IS WHAT COUNTS. Prove the row's statement (the work); the ties are given (YtaplbadcpbollaaGreatDoorTie.lean); close each card by the builder's one call (the guide's Derived/Test/ToyasCard.lean, 'card_holds'). Laid BY PROGRAM, IN A SANDBOX (cutbox-door.mjs). By AI agents, Wed Nov 11 2026. No macro, syntax, notation, axiom, sorry.
-/
import Derived.Test.YtaplbadcpbollaaGreatDoorRows
import GoSem.ClaimSeven
namespace Go.Proofs.YtaplbadcpbollaaGreatDoor
namespace Rows

/-- THE TIED CARD OF 'trammellaw03.RatTexts'. -/
def ratTextsCard : Claim7 := { stood := { row := ratTextsRow, standIns := [], harness := (true, "d2783d740c1f6544c38df87530a00aba3cd4712e76c07c24a5c29a72fcd66351"), looks := false }, kinds := [], alts := [], laidByText := true, laidKinds := [.data, .data, .data, .data, .pinned], laidTests := true, laidLooks := .later }
def RatTextsCardSaid : Prop := Claim7.holds Tryz.pinned (.plain (OpenSpec.ofChange ratTextsSpec)) ratTextsCard

/-- THE TIED CARD OF 'trammellaw03.RatThere'. -/
def ratThereCard : Claim7 := { stood := { row := ratThereRow, standIns := [], harness := (true, "d2783d740c1f6544c38df87530a00aba3cd4712e76c07c24a5c29a72fcd66351"), looks := false }, kinds := [], alts := [], laidByText := true, laidKinds := [.data, .data, .data, .data, .pinned], laidTests := true, laidLooks := .later }
def RatThereCardSaid : Prop := Claim7.holds Tryz.pinned (.plain (OpenSpec.ofChange ratThereSpec)) ratThereCard

/-- THE SECOND FORM's CARD OF 'trammellaw03.RatTexts'. -/
def ratTextsUptoCard : Claim7 := { stood := { row := ratTextsUptoRow, standIns := [], harness := (true, "d2783d740c1f6544c38df87530a00aba3cd4712e76c07c24a5c29a72fcd66351"), looks := false }, kinds := [], alts := [], laidByText := true, laidKinds := [.data, .data, .data, .data, .pinned], laidTests := true, laidLooks := .later }
def RatTextsUptoCardSaid : Prop := Claim7.holds Tryz.pinned (.plain (OpenSpec.upto ratTextsSpec)) ratTextsUptoCard

/-- THE SECOND FORM's CARD OF 'trammellaw03.RatThere'. -/
def ratThereUptoCard : Claim7 := { stood := { row := ratThereUptoRow, standIns := [], harness := (true, "d2783d740c1f6544c38df87530a00aba3cd4712e76c07c24a5c29a72fcd66351"), looks := false }, kinds := [], alts := [], laidByText := true, laidKinds := [.data, .data, .data, .data, .pinned], laidTests := true, laidLooks := .later }
def RatThereUptoCardSaid : Prop := Claim7.holds Tryz.pinned (.plain (OpenSpec.upto ratThereSpec)) ratThereUptoCard
end Rows
end Go.Proofs.YtaplbadcpbollaaGreatDoor
