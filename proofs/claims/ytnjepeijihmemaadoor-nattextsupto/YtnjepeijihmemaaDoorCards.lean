/-
  DERIVED. GIVEN WITH THE SEED: THE CARDS: each row of YtnjepeijihmemaaDoorRows.lean that lists a variable, with what it lists TIED to the program's text (the seventh form; the later family's looks); each row that meets fmt, with fmt's text TOLD by the authors' own Lean function (tested against real Go, not proved from fmt's source: count such statements apart). THE CARD IS WHAT COUNTS. Prove the row's statement (the work); the ties are given (YtnjepeijihmemaaDoorTie.lean); close each card by the builder's one call (the guide's Derived/Test/ToyasCard.lean, 'card_holds'). Laid BY PROGRAM, IN A SANDBOX (cutbox-door.mjs). By AI agents, Wed Nov 11 2026. No macro, syntax, notation, axiom, sorry.
-/
import Derived.Test.YtnjepeijihmemaaDoorRows
import GoSem.ClaimSeven
namespace Go.Proofs.YtnjepeijihmemaaDoor
namespace Rows

/-- THE TIED CARD OF 'trammellaw01.NatTexts'. -/
def natTextsCard : Claim7 := { stood := { row := natTextsRow, standIns := [], harness := (true, "b77be440cd50bfc80074ba99abb9ad12d02fafae15be77ee185b0e5b547ac536"), looks := false }, kinds := [], alts := [], laidByText := true, laidKinds := [.data, .data, .data], laidTests := true, laidLooks := .later }
def NatTextsCardSaid : Prop := Claim7.holds Tryd.pinned (.plain (OpenSpec.ofChange natTextsSpec)) natTextsCard

/-- THE TIED CARD OF 'trammellaw01.NatThere'. -/
def natThereCard : Claim7 := { stood := { row := natThereRow, standIns := [], harness := (true, "b77be440cd50bfc80074ba99abb9ad12d02fafae15be77ee185b0e5b547ac536"), looks := false }, kinds := [], alts := [], laidByText := true, laidKinds := [.data, .data, .data], laidTests := true, laidLooks := .later }
def NatThereCardSaid : Prop := Claim7.holds Tryd.pinned (.plain (OpenSpec.ofChange natThereSpec)) natThereCard

/-- THE SECOND FORM's CARD OF 'trammellaw01.NatTexts'. -/
def natTextsUptoCard : Claim7 := { stood := { row := natTextsUptoRow, standIns := [], harness := (true, "b77be440cd50bfc80074ba99abb9ad12d02fafae15be77ee185b0e5b547ac536"), looks := false }, kinds := [], alts := [], laidByText := true, laidKinds := [.data, .data, .data], laidTests := true, laidLooks := .later }
def NatTextsUptoCardSaid : Prop := Claim7.holds Tryd.pinned (.plain (OpenSpec.upto natTextsSpec)) natTextsUptoCard

/-- THE SECOND FORM's CARD OF 'trammellaw01.NatThere'. -/
def natThereUptoCard : Claim7 := { stood := { row := natThereUptoRow, standIns := [], harness := (true, "b77be440cd50bfc80074ba99abb9ad12d02fafae15be77ee185b0e5b547ac536"), looks := false }, kinds := [], alts := [], laidByText := true, laidKinds := [.data, .data, .data], laidTests := true, laidLooks := .later }
def NatThereUptoCardSaid : Prop := Claim7.holds Tryd.pinned (.plain (OpenSpec.upto natThereSpec)) natThereUptoCard
end Rows
end Go.Proofs.YtnjepeijihmemaaDoor
