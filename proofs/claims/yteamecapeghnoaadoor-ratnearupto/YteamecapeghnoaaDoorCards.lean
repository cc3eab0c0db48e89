/-
  DERIVED. GIVEN WITH THE SEED: THE CARDS: each row of YteamecapeghnoaaDoorRows.lean that lists a variable, with what it lists TIED to the program's text (the seventh form; the later family's looks); each row that meets fmt, with fmt's text TOLD by the authors' own Lean function (tested against real Go, not proved from fmt's source: count such statements apart). THE CARD IS WHAT COUNTS. Prove the row's statement (the work); the ties are given (YteamecapeghnoaaDoorTie.lean); close each card by the builder's one call (the guide's Derived/Test/ToyasCard.lean, 'card_holds'). Laid BY PROGRAM, IN A SANDBOX (cutbox-door.mjs). By AI agents, Wed Nov 11 2026. No macro, syntax, notation, axiom, sorry.
-/
import Derived.Test.YteamecapeghnoaaDoorRows
import GoSem.ClaimSeven
namespace Go.Proofs.YteamecapeghnoaaDoor
namespace Rows

/-- THE TIED CARD OF 'trammellaw03.RatField'. -/
def ratFieldCard : Claim7 := { stood := { row := ratFieldRow, standIns := [], harness := (true, "814cf8c1558f4846800843aa7679f33953800725a62144e57b42e767d7b72c25"), looks := false }, kinds := [], alts := [], laidByText := true, laidKinds := [.data, .data, .data], laidTests := true, laidLooks := .later }
def RatFieldCardSaid : Prop := Claim7.holds Tryd.pinned (.plain (OpenSpec.ofChange ratFieldSpec)) ratFieldCard

/-- THE TIED CARD OF 'trammellaw03.RatNear'. -/
def ratNearCard : Claim7 := { stood := { row := ratNearRow, standIns := [], harness := (true, "814cf8c1558f4846800843aa7679f33953800725a62144e57b42e767d7b72c25"), looks := false }, kinds := [], alts := [], laidByText := true, laidKinds := [.data, .data, .data], laidTests := true, laidLooks := .later }
def RatNearCardSaid : Prop := Claim7.holds Tryd.pinned (.plain (OpenSpec.ofChange ratNearSpec)) ratNearCard

/-- THE SECOND FORM's CARD OF 'trammellaw03.RatField'. -/
def ratFieldUptoCard : Claim7 := { stood := { row := ratFieldUptoRow, standIns := [], harness := (true, "814cf8c1558f4846800843aa7679f33953800725a62144e57b42e767d7b72c25"), looks := false }, kinds := [], alts := [], laidByText := true, laidKinds := [.data, .data, .data], laidTests := true, laidLooks := .later }
def RatFieldUptoCardSaid : Prop := Claim7.holds Tryd.pinned (.plain (OpenSpec.upto ratFieldSpec)) ratFieldUptoCard

/-- THE SECOND FORM's CARD OF 'trammellaw03.RatNear'. -/
def ratNearUptoCard : Claim7 := { stood := { row := ratNearUptoRow, standIns := [], harness := (true, "814cf8c1558f4846800843aa7679f33953800725a62144e57b42e767d7b72c25"), looks := false }, kinds := [], alts := [], laidByText := true, laidKinds := [.data, .data, .data], laidTests := true, laidLooks := .later }
def RatNearUptoCardSaid : Prop := Claim7.holds Tryd.pinned (.plain (OpenSpec.upto ratNearSpec)) ratNearUptoCard
end Rows
end Go.Proofs.YteamecapeghnoaaDoor
