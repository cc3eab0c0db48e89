/-
  DERIVED. GIVEN WITH THE SEED: THE CARDS: each row of YtoplejeljmpcpaaDoorRows.lean that lists a variable, with what it lists TIED to the program's text (the seventh form; the later family's looks); each row that meets fmt, with fmt's text TOLD by the authors' own Lean function (tested against real Go, not proved from fmt's source: count such statements apart). THE CARD IS WHAT COUNTS. Prove the row's statement (the work); the ties are given (YtoplejeljmpcpaaDoorTie.lean); close each card by the builder's one call (the guide's Derived/Test/ToyasCard.lean, 'card_holds'). Laid BY PROGRAM, IN A SANDBOX (cutbox-door.mjs). By AI agents, Wed Nov 11 2026. No macro, syntax, notation, axiom, sorry.
-/
import Derived.Test.YtoplejeljmpcpaaDoorRows
import GoSem.ClaimSeven
namespace Go.Proofs.YtoplejeljmpcpaaDoor
namespace Rows

/-- THE TIED CARD OF 'trammellaw02.ZintTexts'. -/
def zintTextsCard : Claim7 := { stood := { row := zintTextsRow, standIns := [], harness := (true, "e8aa4eb032ef0a9cf1ce2392abfe58df6c92ecb0a8aca83359b3df3db87c6f1f"), looks := false }, kinds := [], alts := [], laidByText := true, laidKinds := [.data, .data, .data], laidTests := true, laidLooks := .later }
def ZintTextsCardSaid : Prop := Claim7.holds Tryd.pinned (.plain (OpenSpec.ofChange zintTextsSpec)) zintTextsCard

/-- THE TIED CARD OF 'trammellaw02.ZintBack'. -/
def zintBackCard : Claim7 := { stood := { row := zintBackRow, standIns := [], harness := (true, "e8aa4eb032ef0a9cf1ce2392abfe58df6c92ecb0a8aca83359b3df3db87c6f1f"), looks := false }, kinds := [], alts := [], laidByText := true, laidKinds := [.data, .data, .data], laidTests := true, laidLooks := .later }
def ZintBackCardSaid : Prop := Claim7.holds Tryd.pinned (.plain (OpenSpec.ofChange zintBackSpec)) zintBackCard

/-- THE SECOND FORM's CARD OF 'trammellaw02.ZintTexts'. -/
def zintTextsUptoCard : Claim7 := { stood := { row := zintTextsUptoRow, standIns := [], harness := (true, "e8aa4eb032ef0a9cf1ce2392abfe58df6c92ecb0a8aca83359b3df3db87c6f1f"), looks := false }, kinds := [], alts := [], laidByText := true, laidKinds := [.data, .data, .data], laidTests := true, laidLooks := .later }
def ZintTextsUptoCardSaid : Prop := Claim7.holds Tryd.pinned (.plain (OpenSpec.upto zintTextsSpec)) zintTextsUptoCard

/-- THE SECOND FORM's CARD OF 'trammellaw02.ZintBack'. -/
def zintBackUptoCard : Claim7 := { stood := { row := zintBackUptoRow, standIns := [], harness := (true, "e8aa4eb032ef0a9cf1ce2392abfe58df6c92ecb0a8aca83359b3df3db87c6f1f"), looks := false }, kinds := [], alts := [], laidByText := true, laidKinds := [.data, .data, .data], laidTests := true, laidLooks := .later }
def ZintBackUptoCardSaid : Prop := Claim7.holds Tryd.pinned (.plain (OpenSpec.upto zintBackSpec)) zintBackUptoCard
end Rows
end Go.Proofs.YtoplejeljmpcpaaDoor
