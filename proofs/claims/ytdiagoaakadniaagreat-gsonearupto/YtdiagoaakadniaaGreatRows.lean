/-
  No cell of these rows narrows 'for every input' (looked for: loops, veiled, ifaces, maps, wideKeys, modest, calm, conditions, laid).
  DERIVED. THE GIVEN ROWS OF THIS SEAT. 2 by the template 'for every input the law returns true; each argument reads behind the call as it read before'; 0 by the template 'total and deterministic' (their statements: YtdiagoaakadniaaGreatTotals.lean).
  GIVEN WITH THE SEED: the statements are not yours to turn. If you find one false, say at which input.
  Laid BY PROGRAM, IN A SANDBOX (cutbox-rows.mjs): the forced cells as the released guide's own fill.sh prints them over the translation 478df597b1f532bb… (all of the seat's roots in one cut). By AI agents, Wed Nov 11 2026. No macro, syntax, notation, axiom, sorry.
-/
import Derived.Test.YtdiagoaakadniaaGreatChecked
import GoSem.Claim
import GoSem.ClaimJoined
import GoSem.ClaimMapViews
import Derived.JoinedTies
import Derived.KernelRfl
namespace Go.Proofs.YtdiagoaakadniaaGreat
/- THE CELL 'sum', in the pinned program and in every row, IS THE sha256 OF THE DUMP (.gsa) THAT YtdiagoaakadniaaGreatProg.lean LOADS. Nothing in Lean hashes anything: it is a label: what it is worth is what the hold of that sum in a sandbox is worth. -/
noncomputable def Tryz.pinned : Pinned := { name := "ytdiagoaakadniaagreat", sum := "478df597b1f532bb482c8f44798d063025d9a850f01c8a1d642396170b82c66e", checked := Tryz.checked }
namespace Rows
def none {H : Type} : Left H := { results := [], args := [] }

/-- 'trammellaw05.GsoCoords': WHATEVER THE INPUT: true; the input reads as it did. -/
def gsoCoordsSpec : ChangeSpec := { name := "gsoCoords", fn := fun _ => fun
  | [d1, d2] => { results := [.lit (.bool true)], args := [d1, d2] }
  | _ => none }
def gsoCoordsRow : OpenClaim := { program := "ytdiagoaakadniaagreat", sum := "478df597b1f532bb482c8f44798d063025d9a850f01c8a1d642396170b82c66e", func := "trammel/trammellaw05.GsoCoords", spec := "gsoCoords", unfollowed := true, recurses := true, apart := false }
def GsoCoordsSaid : Prop := gsoCoordsRow.holds Tryz.pinned (OpenSpec.ofChange gsoCoordsSpec)

/-- ITS FALSE NEIGHBOUR: 'it returns false'. Refute it at one input. -/
def gsoCoordsWrong : ChangeSpec := { name := "gsoCoords", fn := fun _ => fun
  | [d1, d2] => { results := [.lit (.bool false)], args := [d1, d2] }
  | _ => none }
def GsoCoordsWrongFalsely : Prop := gsoCoordsRow.holds Tryz.pinned (OpenSpec.ofChange gsoCoordsWrong)

/-- 'trammellaw05.GsoNear': WHATEVER THE INPUT: true; the input reads as it did. -/
def gsoNearSpec : ChangeSpec := { name := "gsoNear", fn := fun _ => fun
  | [d1, d2] => { results := [.lit (.bool true)], args := [d1, d2] }
  | _ => none }
def gsoNearRow : OpenClaim := { program := "ytdiagoaakadniaagreat", sum := "478df597b1f532bb482c8f44798d063025d9a850f01c8a1d642396170b82c66e", func := "trammel/trammellaw05.GsoNear", spec := "gsoNear", unfollowed := true, recurses := true, apart := false }
def GsoNearSaid : Prop := gsoNearRow.holds Tryz.pinned (OpenSpec.ofChange gsoNearSpec)

/-- ITS FALSE NEIGHBOUR: 'it returns false'. Refute it at one input. -/
def gsoNearWrong : ChangeSpec := { name := "gsoNear", fn := fun _ => fun
  | [d1, d2] => { results := [.lit (.bool false)], args := [d1, d2] }
  | _ => none }
def GsoNearWrongFalsely : Prop := gsoNearRow.holds Tryz.pinned (OpenSpec.ofChange gsoNearWrong)

/- THE SECOND FORM. 'bulk': how many values and letters a reading holds, each counted each time it is reached (what is shared counts as often as it is met; a slice's spare places count too). A statement '..UptoSaid' is the law's where the arguments, and the package variables that the reading takes, are together of bulk at most 1048576: NARROWER than '..Said'. Prove '..Said' where nothing that the law and all that it calls make is longer than what came in: it says more and counts as full. Else prove '..UptoSaid'. A law counts once. -/
mutual
def uptoBulk {H : Type} : DataW H → Nat
  | .lit (.string bytes) => bytes.length + 1
  | .lit _ => 1
  | .nil => 1
  | .ptr d => uptoBulk d + 1
  | .slice elems spare => uptoBulkAll elems + uptoBulkAll spare + 1
  | .agg parts => uptoBulkAll parts + 1
  | .iface _ d => uptoBulk d + 1
  | .map entries => uptoBulkEntries entries + 1
  | .held _ => 1
def uptoBulkAll {H : Type} : List (DataW H) → Nat
  | [] => 0
  | d :: r => uptoBulk d + uptoBulkAll r
def uptoBulkEntries {H : Type} : List (Lit × DataW H) → Nat
  | [] => 0
  | x :: r => uptoBulkEntry x + uptoBulkEntries r
def uptoBulkEntry {H : Type} : Lit × DataW H → Nat
  | (.string bytes, d) => bytes.length + uptoBulk d + 1
  | (_, d) => uptoBulk d + 1
 end
def uptoSmall : (H : Type) → List (DataW H) → Bool := fun _ ds => decide (uptoBulkAll ds ≤ 1048576)
def OpenSpec.upto (s : _root_.Go.ChangeSpec) : _root_.Go.OpenSpec := { _root_.Go.OpenSpec.ofChange s with cond := some uptoSmall }

/-- 'trammellaw05.GsoCoords', WHERE WHAT IT READS IS OF BULK AT MOST 1048576: true; the input reads as it did. -/
def gsoCoordsUptoRow : OpenClaim := { program := "ytdiagoaakadniaagreat", sum := "478df597b1f532bb482c8f44798d063025d9a850f01c8a1d642396170b82c66e", func := "trammel/trammellaw05.GsoCoords", spec := "gsoCoords", unfollowed := true, recurses := true, apart := false, narrowed := true }
def GsoCoordsUptoSaid : Prop := gsoCoordsUptoRow.holds Tryz.pinned (OpenSpec.upto gsoCoordsSpec)

/-- 'trammellaw05.GsoNear', WHERE WHAT IT READS IS OF BULK AT MOST 1048576: true; the input reads as it did. -/
def gsoNearUptoRow : OpenClaim := { program := "ytdiagoaakadniaagreat", sum := "478df597b1f532bb482c8f44798d063025d9a850f01c8a1d642396170b82c66e", func := "trammel/trammellaw05.GsoNear", spec := "gsoNear", unfollowed := true, recurses := true, apart := false, narrowed := true }
def GsoNearUptoSaid : Prop := gsoNearUptoRow.holds Tryz.pinned (OpenSpec.upto gsoNearSpec)

end Rows
end Go.Proofs.YtdiagoaakadniaaGreat
