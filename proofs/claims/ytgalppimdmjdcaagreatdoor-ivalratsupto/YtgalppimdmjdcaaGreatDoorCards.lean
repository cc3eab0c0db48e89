/-
  DERIVED. GIVEN WITH THE SEED: THE CARDS: each row of YtgalppimdmjdcaaGreatDoorRows.lean that lists a variable, with what it lists TIED to the program's text (the seventh form; the later family's looks); each row that meets fmt, with fmt's text TOLD by the authors' own Lean function (tested against real Go, not proved from fmt's source: count such statements apart). THE CARD IS WHAT COUNTS. Prove the row's statement (the work); the ties are given (YtgalppimdmjdcaaGreatDoorTie.lean); close each card by the builder's one call (the guide's Derived/Test/ToyasCard.lean, 'card_holds'). Laid BY PROGRAM, IN A SANDBOX (cutbox-door.mjs). By AI agents, Wed Nov 11 2026. No macro, syntax, notation, axiom, sorry.
-/
import Derived.Test.YtgalppimdmjdcaaGreatDoorRows
import GoSem.ClaimSeven
namespace Go.Proofs.YtgalppimdmjdcaaGreatDoor
namespace Rows

/-- THE TIED CARD OF 'trammellaw09.IvalInts'. -/
def ivalIntsCard : Claim7 := { stood := { row := ivalIntsRow, standIns := [], harness := (true, "126a3d13fda06c82610d4241c7c2265e5be623c50c9a132d52fd50624fed50ce"), looks := false }, kinds := [], alts := [], laidByText := true, laidKinds := [.data], laidTests := true, laidLooks := .later }
def IvalIntsCardSaid : Prop := Claim7.holds Tryz.pinned (.plain (OpenSpec.ofChange ivalIntsSpec)) ivalIntsCard

/-- THE TIED CARD OF 'trammellaw09.IvalRats'. -/
def ivalRatsCard : Claim7 := { stood := { row := ivalRatsRow, standIns := [], harness := (true, "126a3d13fda06c82610d4241c7c2265e5be623c50c9a132d52fd50624fed50ce"), looks := false }, kinds := [], alts := [], laidByText := true, laidKinds := [.data], laidTests := true, laidLooks := .later }
def IvalRatsCardSaid : Prop := Claim7.holds Tryz.pinned (.plain (OpenSpec.ofChange ivalRatsSpec)) ivalRatsCard

/-- THE SECOND FORM's CARD OF 'trammellaw09.IvalInts'. -/
def ivalIntsUptoCard : Claim7 := { stood := { row := ivalIntsUptoRow, standIns := [], harness := (true, "126a3d13fda06c82610d4241c7c2265e5be623c50c9a132d52fd50624fed50ce"), looks := false }, kinds := [], alts := [], laidByText := true, laidKinds := [.data], laidTests := true, laidLooks := .later }
def IvalIntsUptoCardSaid : Prop := Claim7.holds Tryz.pinned (.plain (OpenSpec.upto ivalIntsSpec)) ivalIntsUptoCard

/-- THE SECOND FORM's CARD OF 'trammellaw09.IvalRats'. -/
def ivalRatsUptoCard : Claim7 := { stood := { row := ivalRatsUptoRow, standIns := [], harness := (true, "126a3d13fda06c82610d4241c7c2265e5be623c50c9a132d52fd50624fed50ce"), looks := false }, kinds := [], alts := [], laidByText := true, laidKinds := [.data], laidTests := true, laidLooks := .later }
def IvalRatsUptoCardSaid : Prop := Claim7.holds Tryz.pinned (.plain (OpenSpec.upto ivalRatsSpec)) ivalRatsUptoCard
end Rows
end Go.Proofs.YtgalppimdmjdcaaGreatDoor
