/-
  DERIVED. GIVEN WITH THE SEED: THE CARDS: each row of YtgalppimdmjdcabGreatDoorRows.lean that lists a variable, with what it lists TIED to the program's text (the seventh form; the later family's looks); each row that meets fmt, with fmt's text TOLD by the authors' own Lean function (tested against real Go, not proved from fmt's source: count such statements apart). THE CARD IS WHAT COUNTS. Prove the row's statement (the work); the ties are given (YtgalppimdmjdcabGreatDoorTie.lean); close each card by the builder's one call (the guide's Derived/Test/ToyasCard.lean, 'card_holds'). Laid BY PROGRAM, IN A SANDBOX (cutbox-door.mjs). By AI agents, Wed Nov 11 2026. No macro, syntax, notation, axiom, sorry.
-/
import Derived.Test.YtgalppimdmjdcabGreatDoorRows
import GoSem.ClaimSeven
namespace Go.Proofs.YtgalppimdmjdcabGreatDoor
namespace Rows

/-- THE TIED CARD OF 'trammellaw09.IvalTight'. -/
def ivalTightCard : Claim7 := { stood := { row := ivalTightRow, standIns := [], harness := (true, "600f913653538f47c492b76ebddcc06daecde228a36d58c47f0bd55e2704631f"), looks := false }, kinds := [], alts := [], laidByText := true, laidKinds := [.data], laidTests := true, laidLooks := .later }
def IvalTightCardSaid : Prop := Claim7.holds Tryz.pinned (.plain (OpenSpec.ofChange ivalTightSpec)) ivalTightCard

/-- THE SECOND FORM's CARD OF 'trammellaw09.IvalTight'. -/
def ivalTightUptoCard : Claim7 := { stood := { row := ivalTightUptoRow, standIns := [], harness := (true, "600f913653538f47c492b76ebddcc06daecde228a36d58c47f0bd55e2704631f"), looks := false }, kinds := [], alts := [], laidByText := true, laidKinds := [.data], laidTests := true, laidLooks := .later }
def IvalTightUptoCardSaid : Prop := Claim7.holds Tryz.pinned (.plain (OpenSpec.upto ivalTightSpec)) ivalTightUptoCard
end Rows
end Go.Proofs.YtgalppimdmjdcabGreatDoor
