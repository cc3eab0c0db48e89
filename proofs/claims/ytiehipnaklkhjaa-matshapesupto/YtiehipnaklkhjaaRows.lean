/-
  No cell of these rows narrows 'for every input' (looked for: loops, veiled, ifaces, maps, wideKeys, modest, calm, conditions, laid).
  DERIVED. THE GIVEN ROWS OF THIS SEAT. 5 by the template 'for every input the law returns true; each argument reads behind the call as it read before'; 0 by the template 'total and deterministic' (their statements: YtiehipnaklkhjaaTotals.lean).
  GIVEN WITH THE SEED: the statements are not yours to turn. If you find one false, say at which input.
  Laid BY PROGRAM, IN A SANDBOX (cutbox-rows.mjs): the forced cells as the released guide's own fill.sh prints them over the translation 3288cf986c24b04e… (all of the seat's roots in one cut). By AI agents, Wed Nov 11 2026. No macro, syntax, notation, axiom, sorry.
-/
import Derived.Test.YtiehipnaklkhjaaChecked
import GoSem.Claim
import GoSem.ClaimJoined
import GoSem.ClaimMapViews
import Derived.JoinedTies
import Derived.KernelRfl
namespace Go.Proofs.Ytiehipnaklkhjaa
/- THE CELL 'sum', in the pinned program and in every row, IS THE sha256 OF THE DUMP (.gsa) THAT YtiehipnaklkhjaaProg.lean LOADS. Nothing in Lean hashes anything: it is a label: what it is worth is what the hold of that sum in a sandbox is worth. -/
noncomputable def Try.pinned : Pinned := { name := "ytiehipnaklkhjaa", sum := "3288cf986c24b04e4508e81ee194d62623386b68c2ba4cce5c4dd1a860406c3b", checked := Try.checked }
namespace Rows
def none {H : Type} : Left H := { results := [], args := [] }

/-- 'trammellaw04.MatShapes': WHATEVER THE INPUT: true; the input reads as it did. -/
def matShapesSpec : ChangeSpec := { name := "matShapes", fn := fun _ => fun
  | [d1, d2] => { results := [.lit (.bool true)], args := [d1, d2] }
  | _ => none }
def matShapesRow : OpenClaim := { program := "ytiehipnaklkhjaa", sum := "3288cf986c24b04e4508e81ee194d62623386b68c2ba4cce5c4dd1a860406c3b", func := "trammel/trammellaw04.MatShapes", spec := "matShapes", unfollowed := true, recurses := true, apart := false }
def MatShapesSaid : Prop := matShapesRow.holds Try.pinned (OpenSpec.ofChange matShapesSpec)

/-- ITS FALSE NEIGHBOUR: 'it returns false'. Refute it at one input. -/
def matShapesWrong : ChangeSpec := { name := "matShapes", fn := fun _ => fun
  | [d1, d2] => { results := [.lit (.bool false)], args := [d1, d2] }
  | _ => none }
def MatShapesWrongFalsely : Prop := matShapesRow.holds Try.pinned (OpenSpec.ofChange matShapesWrong)

/-- 'trammellaw04.MatVectors': WHATEVER THE INPUT: true; the input reads as it did. -/
def matVectorsSpec : ChangeSpec := { name := "matVectors", fn := fun _ => fun
  | [d1, d2, d3] => { results := [.lit (.bool true)], args := [d1, d2, d3] }
  | _ => none }
def matVectorsRow : OpenClaim := { program := "ytiehipnaklkhjaa", sum := "3288cf986c24b04e4508e81ee194d62623386b68c2ba4cce5c4dd1a860406c3b", func := "trammel/trammellaw04.MatVectors", spec := "matVectors", unfollowed := true, recurses := true, apart := false }
def MatVectorsSaid : Prop := matVectorsRow.holds Try.pinned (OpenSpec.ofChange matVectorsSpec)

/-- ITS FALSE NEIGHBOUR: 'it returns false'. Refute it at one input. -/
def matVectorsWrong : ChangeSpec := { name := "matVectors", fn := fun _ => fun
  | [d1, d2, d3] => { results := [.lit (.bool false)], args := [d1, d2, d3] }
  | _ => none }
def MatVectorsWrongFalsely : Prop := matVectorsRow.holds Try.pinned (OpenSpec.ofChange matVectorsWrong)

/-- 'trammellaw04.MatOrders': WHATEVER THE INPUT: true; the input reads as it did. -/
def matOrdersSpec : ChangeSpec := { name := "matOrders", fn := fun _ => fun
  | [d1, d2] => { results := [.lit (.bool true)], args := [d1, d2] }
  | _ => none }
def matOrdersRow : OpenClaim := { program := "ytiehipnaklkhjaa", sum := "3288cf986c24b04e4508e81ee194d62623386b68c2ba4cce5c4dd1a860406c3b", func := "trammel/trammellaw04.MatOrders", spec := "matOrders", unfollowed := true, recurses := true, apart := false }
def MatOrdersSaid : Prop := matOrdersRow.holds Try.pinned (OpenSpec.ofChange matOrdersSpec)

/-- ITS FALSE NEIGHBOUR: 'it returns false'. Refute it at one input. -/
def matOrdersWrong : ChangeSpec := { name := "matOrders", fn := fun _ => fun
  | [d1, d2] => { results := [.lit (.bool false)], args := [d1, d2] }
  | _ => none }
def MatOrdersWrongFalsely : Prop := matOrdersRow.holds Try.pinned (OpenSpec.ofChange matOrdersWrong)

/-- 'trammellaw04.MatSames': WHATEVER THE INPUT: true; the input reads as it did. -/
def matSamesSpec : ChangeSpec := { name := "matSames", fn := fun _ => fun
  | [d1, d2] => { results := [.lit (.bool true)], args := [d1, d2] }
  | _ => none }
def matSamesRow : OpenClaim := { program := "ytiehipnaklkhjaa", sum := "3288cf986c24b04e4508e81ee194d62623386b68c2ba4cce5c4dd1a860406c3b", func := "trammel/trammellaw04.MatSames", spec := "matSames", unfollowed := true, recurses := true, apart := false }
def MatSamesSaid : Prop := matSamesRow.holds Try.pinned (OpenSpec.ofChange matSamesSpec)

/-- ITS FALSE NEIGHBOUR: 'it returns false'. Refute it at one input. -/
def matSamesWrong : ChangeSpec := { name := "matSames", fn := fun _ => fun
  | [d1, d2] => { results := [.lit (.bool false)], args := [d1, d2] }
  | _ => none }
def MatSamesWrongFalsely : Prop := matSamesRow.holds Try.pinned (OpenSpec.ofChange matSamesWrong)

/-- 'trammellaw04.MatProducts': WHATEVER THE INPUT: true; the input reads as it did. -/
def matProductsSpec : ChangeSpec := { name := "matProducts", fn := fun _ => fun
  | [d1, d2, d3] => { results := [.lit (.bool true)], args := [d1, d2, d3] }
  | _ => none }
def matProductsRow : OpenClaim := { program := "ytiehipnaklkhjaa", sum := "3288cf986c24b04e4508e81ee194d62623386b68c2ba4cce5c4dd1a860406c3b", func := "trammel/trammellaw04.MatProducts", spec := "matProducts", unfollowed := true, recurses := true, apart := false }
def MatProductsSaid : Prop := matProductsRow.holds Try.pinned (OpenSpec.ofChange matProductsSpec)

/-- ITS FALSE NEIGHBOUR: 'it returns false'. Refute it at one input. -/
def matProductsWrong : ChangeSpec := { name := "matProducts", fn := fun _ => fun
  | [d1, d2, d3] => { results := [.lit (.bool false)], args := [d1, d2, d3] }
  | _ => none }
def MatProductsWrongFalsely : Prop := matProductsRow.holds Try.pinned (OpenSpec.ofChange matProductsWrong)

/- THE SECOND FORM. 'bulk': how many values and letters a reading holds, each counted each time it is reached (what is shared counts as often as it is met; a slice's spare places count too). A statement '..UptoSaid' is the law's where the arguments, and the package variables that the reading takes, are together of bulk at most 1048576: NARROWER than '..Said'. Prove '..Said' where nothing that the law and all that it calls make is longer than what came in: it says more and counts as full. Else prove '..UptoSaid'. A law counts once. -/
mutual
def uptoBulk {H : Type} : DataW H → Nat
  | .lit (.string bytes) => bytes.length + 1
  | .lit _ => 1
  | .nil => 1
  | .ptr d => uptoBulk d + 1
  | .slice elems spare => uptoBulkAll elems + uptoBulkAll spare + 1
  | .agg parts => uptoBulkAll parts + 1
  | .iface _ d => uptoBulk d + 1
  | .map entries => uptoBulkEntries entries + 1
  | .held _ => 1
def uptoBulkAll {H : Type} : List (DataW H) → Nat
  | [] => 0
  | d :: r => uptoBulk d + uptoBulkAll r
def uptoBulkEntries {H : Type} : List (Lit × DataW H) → Nat
  | [] => 0
  | x :: r => uptoBulkEntry x + uptoBulkEntries r
def uptoBulkEntry {H : Type} : Lit × DataW H → Nat
  | (.string bytes, d) => bytes.length + uptoBulk d + 1
  | (_, d) => uptoBulk d + 1
 end
def uptoSmall : (H : Type) → List (DataW H) → Bool := fun _ ds => decide (uptoBulkAll ds ≤ 1048576)
def OpenSpec.upto (s : _root_.Go.ChangeSpec) : _root_.Go.OpenSpec := { _root_.Go.OpenSpec.ofChange s with cond := some uptoSmall }

/-- 'trammellaw04.MatShapes', WHERE WHAT IT READS IS OF BULK AT MOST 1048576: true; the input reads as it did. -/
def matShapesUptoRow : OpenClaim := { program := "ytiehipnaklkhjaa", sum := "3288cf986c24b04e4508e81ee194d62623386b68c2ba4cce5c4dd1a860406c3b", func := "trammel/trammellaw04.MatShapes", spec := "matShapes", unfollowed := true, recurses := true, apart := false, narrowed := true }
def MatShapesUptoSaid : Prop := matShapesUptoRow.holds Try.pinned (OpenSpec.upto matShapesSpec)

/-- 'trammellaw04.MatVectors', WHERE WHAT IT READS IS OF BULK AT MOST 1048576: true; the input reads as it did. -/
def matVectorsUptoRow : OpenClaim := { program := "ytiehipnaklkhjaa", sum := "3288cf986c24b04e4508e81ee194d62623386b68c2ba4cce5c4dd1a860406c3b", func := "trammel/trammellaw04.MatVectors", spec := "matVectors", unfollowed := true, recurses := true, apart := false, narrowed := true }
def MatVectorsUptoSaid : Prop := matVectorsUptoRow.holds Try.pinned (OpenSpec.upto matVectorsSpec)

/-- 'trammellaw04.MatOrders', WHERE WHAT IT READS IS OF BULK AT MOST 1048576: true; the input reads as it did. -/
def matOrdersUptoRow : OpenClaim := { program := "ytiehipnaklkhjaa", sum := "3288cf986c24b04e4508e81ee194d62623386b68c2ba4cce5c4dd1a860406c3b", func := "trammel/trammellaw04.MatOrders", spec := "matOrders", unfollowed := true, recurses := true, apart := false, narrowed := true }
def MatOrdersUptoSaid : Prop := matOrdersUptoRow.holds Try.pinned (OpenSpec.upto matOrdersSpec)

/-- 'trammellaw04.MatSames', WHERE WHAT IT READS IS OF BULK AT MOST 1048576: true; the input reads as it did. -/
def matSamesUptoRow : OpenClaim := { program := "ytiehipnaklkhjaa", sum := "3288cf986c24b04e4508e81ee194d62623386b68c2ba4cce5c4dd1a860406c3b", func := "trammel/trammellaw04.MatSames", spec := "matSames", unfollowed := true, recurses := true, apart := false, narrowed := true }
def MatSamesUptoSaid : Prop := matSamesUptoRow.holds Try.pinned (OpenSpec.upto matSamesSpec)

/-- 'trammellaw04.MatProducts', WHERE WHAT IT READS IS OF BULK AT MOST 1048576: true; the input reads as it did. -/
def matProductsUptoRow : OpenClaim := { program := "ytiehipnaklkhjaa", sum := "3288cf986c24b04e4508e81ee194d62623386b68c2ba4cce5c4dd1a860406c3b", func := "trammel/trammellaw04.MatProducts", spec := "matProducts", unfollowed := true, recurses := true, apart := false, narrowed := true }
def MatProductsUptoSaid : Prop := matProductsUptoRow.holds Try.pinned (OpenSpec.upto matProductsSpec)

end Rows
end Go.Proofs.Ytiehipnaklkhjaa
