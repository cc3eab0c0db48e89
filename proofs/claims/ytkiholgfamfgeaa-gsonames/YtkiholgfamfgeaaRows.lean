/-
  No cell of these rows narrows 'for every input' (looked for: loops, veiled, ifaces, maps, wideKeys, modest, calm, conditions, laid).
  DERIVED. THE GIVEN ROWS OF THIS SEAT. 2 by the template 'for every input the law returns true; each argument reads behind the call as it read before'; 0 by the template 'total and deterministic' (their statements: YtkiholgfamfgeaaTotals.lean).
  GIVEN WITH THE SEED: the statements are not yours to turn. If you find one false, say at which input.
  Laid BY PROGRAM, IN A SANDBOX (cutbox-rows.mjs): the forced cells as the released guide's own fill.sh prints them over the translation 3bd048ad886509d3… (all of the seat's roots in one cut). By AI agents, Wed Nov 11 2026. No macro, syntax, notation, axiom, sorry.
-/
import Derived.Test.YtkiholgfamfgeaaChecked
import GoSem.Claim
import GoSem.ClaimJoined
import GoSem.ClaimMapViews
import Derived.JoinedTies
import Derived.KernelRfl
namespace Go.Proofs.Ytkiholgfamfgeaa
/- THE CELL 'sum', in the pinned program and in every row, IS THE sha256 OF THE DUMP (.gsa) THAT YtkiholgfamfgeaaProg.lean LOADS. Nothing in Lean hashes anything: it is a label: what it is worth is what the hold of that sum in a sandbox is worth. -/
noncomputable def Try.pinned : Pinned := { name := "ytkiholgfamfgeaa", sum := "3bd048ad886509d3c5e48dda488d229f878de5a9993cf5b60e199d78b9eb8506", checked := Try.checked }
namespace Rows
def none {H : Type} : Left H := { results := [], args := [] }

/-- 'trammellaw05.GsoMoves': WHATEVER THE INPUT: true; the input reads as it did. -/
def gsoMovesSpec : ChangeSpec := { name := "gsoMoves", fn := fun _ => fun
  | [d1, d2, d3, d4] => { results := [.lit (.bool true)], args := [d1, d2, d3, d4] }
  | _ => none }
def gsoMovesRow : OpenClaim := { program := "ytkiholgfamfgeaa", sum := "3bd048ad886509d3c5e48dda488d229f878de5a9993cf5b60e199d78b9eb8506", func := "trammel/trammellaw05.GsoMoves", spec := "gsoMoves", unfollowed := true, recurses := true, apart := false }
def GsoMovesSaid : Prop := gsoMovesRow.holds Try.pinned (OpenSpec.ofChange gsoMovesSpec)

/-- ITS FALSE NEIGHBOUR: 'it returns false'. Refute it at one input. -/
def gsoMovesWrong : ChangeSpec := { name := "gsoMoves", fn := fun _ => fun
  | [d1, d2, d3, d4] => { results := [.lit (.bool false)], args := [d1, d2, d3, d4] }
  | _ => none }
def GsoMovesWrongFalsely : Prop := gsoMovesRow.holds Try.pinned (OpenSpec.ofChange gsoMovesWrong)

/-- 'trammellaw05.GsoNames': WHATEVER THE INPUT: true; the input reads as it did. -/
def gsoNamesSpec : ChangeSpec := { name := "gsoNames", fn := fun _ => fun
  | [] => { results := [.lit (.bool true)], args := [] }
  | _ => none }
def gsoNamesRow : OpenClaim := { program := "ytkiholgfamfgeaa", sum := "3bd048ad886509d3c5e48dda488d229f878de5a9993cf5b60e199d78b9eb8506", func := "trammel/trammellaw05.GsoNames", spec := "gsoNames", unfollowed := true, recurses := true, apart := false }
def GsoNamesSaid : Prop := gsoNamesRow.holds Try.pinned (OpenSpec.ofChange gsoNamesSpec)

/-- ITS FALSE NEIGHBOUR: 'it returns false'. Refute it at one input. -/
def gsoNamesWrong : ChangeSpec := { name := "gsoNames", fn := fun _ => fun
  | [] => { results := [.lit (.bool false)], args := [] }
  | _ => none }
def GsoNamesWrongFalsely : Prop := gsoNamesRow.holds Try.pinned (OpenSpec.ofChange gsoNamesWrong)

/- THE SECOND FORM. 'bulk': how many values and letters a reading holds, each counted each time it is reached (what is shared counts as often as it is met; a slice's spare places count too). A statement '..UptoSaid' is the law's where the arguments, and the package variables that the reading takes, are together of bulk at most 1048576: NARROWER than '..Said'. Prove '..Said' where nothing that the law and all that it calls make is longer than what came in: it says more and counts as full. Else prove '..UptoSaid'. A law counts once. -/
mutual
def uptoBulk {H : Type} : DataW H → Nat
  | .lit (.string bytes) => bytes.length + 1
  | .lit _ => 1
  | .nil => 1
  | .ptr d => uptoBulk d + 1
  | .slice elems spare => uptoBulkAll elems + uptoBulkAll spare + 1
  | .agg parts => uptoBulkAll parts + 1
  | .iface _ d => uptoBulk d + 1
  | .map entries => uptoBulkEntries entries + 1
  | .held _ => 1
def uptoBulkAll {H : Type} : List (DataW H) → Nat
  | [] => 0
  | d :: r => uptoBulk d + uptoBulkAll r
def uptoBulkEntries {H : Type} : List (Lit × DataW H) → Nat
  | [] => 0
  | x :: r => uptoBulkEntry x + uptoBulkEntries r
def uptoBulkEntry {H : Type} : Lit × DataW H → Nat
  | (.string bytes, d) => bytes.length + uptoBulk d + 1
  | (_, d) => uptoBulk d + 1
 end
def uptoSmall : (H : Type) → List (DataW H) → Bool := fun _ ds => decide (uptoBulkAll ds ≤ 1048576)
def OpenSpec.upto (s : _root_.Go.ChangeSpec) : _root_.Go.OpenSpec := { _root_.Go.OpenSpec.ofChange s with cond := some uptoSmall }

/-- 'trammellaw05.GsoMoves', WHERE WHAT IT READS IS OF BULK AT MOST 1048576: true; the input reads as it did. -/
def gsoMovesUptoRow : OpenClaim := { program := "ytkiholgfamfgeaa", sum := "3bd048ad886509d3c5e48dda488d229f878de5a9993cf5b60e199d78b9eb8506", func := "trammel/trammellaw05.GsoMoves", spec := "gsoMoves", unfollowed := true, recurses := true, apart := false, narrowed := true }
def GsoMovesUptoSaid : Prop := gsoMovesUptoRow.holds Try.pinned (OpenSpec.upto gsoMovesSpec)

/-- 'trammellaw05.GsoNames', WHERE WHAT IT READS IS OF BULK AT MOST 1048576: true; the input reads as it did. -/
def gsoNamesUptoRow : OpenClaim := { program := "ytkiholgfamfgeaa", sum := "3bd048ad886509d3c5e48dda488d229f878de5a9993cf5b60e199d78b9eb8506", func := "trammel/trammellaw05.GsoNames", spec := "gsoNames", unfollowed := true, recurses := true, apart := false, narrowed := true }
def GsoNamesUptoSaid : Prop := gsoNamesUptoRow.holds Try.pinned (OpenSpec.upto gsoNamesSpec)

end Rows
end Go.Proofs.Ytkiholgfamfgeaa
