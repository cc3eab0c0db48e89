/-
  DERIVED. GIVEN WITH THE SEED: THE CARDS: each row of YtcngoobdknifdaaDoorRows.lean that lists a variable, with what it lists TIED to the program's text (the seventh form; the later family's looks); each row that meets fmt, with fmt's text TOLD by the authors' own Lean function (tested against real Go, not proved from fmt's source: count such statements apart). THE CARD IS WHAT COUNTS. Prove the row's statement (the work); the ties are given (YtcngoobdknifdaaDoorTie.lean); close each card by the builder's one call (the guide's Derived/Test/ToyasCard.lean, 'card_holds'). Laid BY PROGRAM, IN A SANDBOX (cutbox-door.mjs). By AI agents, Wed Nov 11 2026. No macro, syntax, notation, axiom, sorry.
-/
import Derived.Test.YtcngoobdknifdaaDoorRows
import GoSem.ClaimSeven
namespace Go.Proofs.YtcngoobdknifdaaDoor
namespace Rows

/-- THE TIED CARD OF 'trammellaw02.ZintTops'. -/
def zintTopsCard : Claim7 := { stood := { row := zintTopsRow, standIns := [], harness := (true, "65058df6f665aea33ac7052fccc79a2f50bb9de565a8abca8eb6560cd309c311"), looks := false }, kinds := [], alts := [], laidByText := true, laidKinds := [.data], laidTests := true, laidLooks := .later }
def ZintTopsCardSaid : Prop := Claim7.holds Tryd.pinned (.plain (OpenSpec.ofChange zintTopsSpec)) zintTopsCard

/-- THE SECOND FORM's CARD OF 'trammellaw02.ZintTops'. -/
def zintTopsUptoCard : Claim7 := { stood := { row := zintTopsUptoRow, standIns := [], harness := (true, "65058df6f665aea33ac7052fccc79a2f50bb9de565a8abca8eb6560cd309c311"), looks := false }, kinds := [], alts := [], laidByText := true, laidKinds := [.data], laidTests := true, laidLooks := .later }
def ZintTopsUptoCardSaid : Prop := Claim7.holds Tryd.pinned (.plain (OpenSpec.upto zintTopsSpec)) zintTopsUptoCard
end Rows
end Go.Proofs.YtcngoobdknifdaaDoor
