/-
  DERIVED. GIVEN WITH THE SEED: THE CARDS: each row of YtdhjgekbocnnkaaDoorRows.lean that lists a variable, with what it lists TIED to the program's text (the seventh form; the later family's looks); each row that meets fmt, with fmt's text TOLD by the authors' own Lean function (tested against real Go, not proved from fmt's source: count such statements apart). THE CARD IS WHAT COUNTS. Prove the row's statement (the work); the ties are given (YtdhjgekbocnnkaaDoorTie.lean); close each card by the builder's one call (the guide's Derived/Test/ToyasCard.lean, 'card_holds'). Laid BY PROGRAM, IN A SANDBOX (cutbox-door.mjs). By AI agents, Wed Nov 11 2026. No macro, syntax, notation, axiom, sorry.
-/
import Derived.Test.YtdhjgekbocnnkaaDoorRows
import GoSem.ClaimSeven
namespace Go.Proofs.YtdhjgekbocnnkaaDoor
namespace Rows

/-- THE TIED CARD OF 'trammellaw04.MatTexts'. -/
def matTextsCard : Claim7 := { stood := { row := matTextsRow, standIns := [], harness := (true, "92c80bd325b0491aa5b4369466a5da208ee33bc8ee92a81b9e47b1edf342536c"), looks := false }, kinds := [], alts := [], laidByText := true, laidKinds := [.data, .data, .data], laidTests := true, laidLooks := .later }
def MatTextsCardSaid : Prop := Claim7.holds Tryd.pinned (.plain (OpenSpec.ofChange matTextsSpec)) matTextsCard

/-- THE TIED CARD OF 'trammellaw04.MatLinear'. -/
def matLinearCard : Claim7 := { stood := { row := matLinearRow, standIns := [], harness := (true, "92c80bd325b0491aa5b4369466a5da208ee33bc8ee92a81b9e47b1edf342536c"), looks := false }, kinds := [], alts := [], laidByText := true, laidKinds := [.data, .data, .data], laidTests := true, laidLooks := .later }
def MatLinearCardSaid : Prop := Claim7.holds Tryd.pinned (.plain (OpenSpec.ofChange matLinearSpec)) matLinearCard

/-- THE TIED CARD OF 'trammellaw04.MatLine'. -/
def matLineCard : Claim7 := { stood := { row := matLineRow, standIns := [], harness := (true, "92c80bd325b0491aa5b4369466a5da208ee33bc8ee92a81b9e47b1edf342536c"), looks := false }, kinds := [], alts := [], laidByText := true, laidKinds := [.data, .data, .data], laidTests := true, laidLooks := .later }
def MatLineCardSaid : Prop := Claim7.holds Tryd.pinned (.plain (OpenSpec.ofChange matLineSpec)) matLineCard

/-- THE SECOND FORM's CARD OF 'trammellaw04.MatTexts'. -/
def matTextsUptoCard : Claim7 := { stood := { row := matTextsUptoRow, standIns := [], harness := (true, "92c80bd325b0491aa5b4369466a5da208ee33bc8ee92a81b9e47b1edf342536c"), looks := false }, kinds := [], alts := [], laidByText := true, laidKinds := [.data, .data, .data], laidTests := true, laidLooks := .later }
def MatTextsUptoCardSaid : Prop := Claim7.holds Tryd.pinned (.plain (OpenSpec.upto matTextsSpec)) matTextsUptoCard

/-- THE SECOND FORM's CARD OF 'trammellaw04.MatLinear'. -/
def matLinearUptoCard : Claim7 := { stood := { row := matLinearUptoRow, standIns := [], harness := (true, "92c80bd325b0491aa5b4369466a5da208ee33bc8ee92a81b9e47b1edf342536c"), looks := false }, kinds := [], alts := [], laidByText := true, laidKinds := [.data, .data, .data], laidTests := true, laidLooks := .later }
def MatLinearUptoCardSaid : Prop := Claim7.holds Tryd.pinned (.plain (OpenSpec.upto matLinearSpec)) matLinearUptoCard

/-- THE SECOND FORM's CARD OF 'trammellaw04.MatLine'. -/
def matLineUptoCard : Claim7 := { stood := { row := matLineUptoRow, standIns := [], harness := (true, "92c80bd325b0491aa5b4369466a5da208ee33bc8ee92a81b9e47b1edf342536c"), looks := false }, kinds := [], alts := [], laidByText := true, laidKinds := [.data, .data, .data], laidTests := true, laidLooks := .later }
def MatLineUptoCardSaid : Prop := Claim7.holds Tryd.pinned (.plain (OpenSpec.upto matLineSpec)) matLineUptoCard
end Rows
end Go.Proofs.YtdhjgekbocnnkaaDoor
