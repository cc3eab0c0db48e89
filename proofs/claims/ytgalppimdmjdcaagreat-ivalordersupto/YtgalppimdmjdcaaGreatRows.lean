/-
  No cell of these rows narrows 'for every input' (looked for: loops, veiled, ifaces, maps, wideKeys, modest, calm, conditions, laid).
  DERIVED. THE GIVEN ROWS OF THIS SEAT. 4 by the template 'for every input the law returns true; each argument reads behind the call as it read before'; 0 by the template 'total and deterministic' (their statements: YtgalppimdmjdcaaGreatTotals.lean).
  GIVEN WITH THE SEED: the statements are not yours to turn. If you find one false, say at which input.
  Laid BY PROGRAM, IN A SANDBOX (cutbox-rows.mjs): the forced cells as the released guide's own fill.sh prints them over the translation f177870cda6c728d… (all of the seat's roots in one cut). By AI agents, Wed Nov 11 2026. No macro, syntax, notation, axiom, sorry.
-/
import Derived.Test.YtgalppimdmjdcaaGreatChecked
import GoSem.Claim
import GoSem.ClaimJoined
import GoSem.ClaimMapViews
import Derived.JoinedTies
import Derived.KernelRfl
namespace Go.Proofs.YtgalppimdmjdcaaGreat
/- THE CELL 'sum', in the pinned program and in every row, IS THE sha256 OF THE DUMP (.gsa) THAT YtgalppimdmjdcaaGreatProg.lean LOADS. Nothing in Lean hashes anything: it is a label: what it is worth is what the hold of that sum in a sandbox is worth. -/
noncomputable def Tryz.pinned : Pinned := { name := "ytgalppimdmjdcaagreat", sum := "f177870cda6c728d55343640515fd2a756196c1c506f0852c57f771465244842", checked := Tryz.checked }
namespace Rows
def none {H : Type} : Left H := { results := [], args := [] }

/-- 'trammellaw09.IvalSteps': WHATEVER THE INPUT: true; the input reads as it did. -/
def ivalStepsSpec : ChangeSpec := { name := "ivalSteps", fn := fun _ => fun
  | [d] => { results := [.lit (.bool true)], args := [d] }
  | _ => none }
def ivalStepsRow : OpenClaim := { program := "ytgalppimdmjdcaagreat", sum := "f177870cda6c728d55343640515fd2a756196c1c506f0852c57f771465244842", func := "trammel/trammellaw09.IvalSteps", spec := "ivalSteps", inPlace := ["math.Float64frombits", "math.Float64bits"], apart := false }
def IvalStepsSaid : Prop := ivalStepsRow.holds Tryz.pinned (OpenSpec.ofChange ivalStepsSpec)

/-- ITS FALSE NEIGHBOUR: 'it returns false'. Refute it at one input. -/
def ivalStepsWrong : ChangeSpec := { name := "ivalSteps", fn := fun _ => fun
  | [d] => { results := [.lit (.bool false)], args := [d] }
  | _ => none }
def IvalStepsWrongFalsely : Prop := ivalStepsRow.holds Tryz.pinned (OpenSpec.ofChange ivalStepsWrong)

/-- 'trammellaw09.IvalSums': WHATEVER THE INPUT: true; the input reads as it did. -/
def ivalSumsSpec : ChangeSpec := { name := "ivalSums", fn := fun _ => fun
  | [d1, d2] => { results := [.lit (.bool true)], args := [d1, d2] }
  | _ => none }
def ivalSumsRow : OpenClaim := { program := "ytgalppimdmjdcaagreat", sum := "f177870cda6c728d55343640515fd2a756196c1c506f0852c57f771465244842", func := "trammel/trammellaw09.IvalSums", spec := "ivalSums", inPlace := ["math.Float64frombits", "math.Float64bits"], apart := false }
def IvalSumsSaid : Prop := ivalSumsRow.holds Tryz.pinned (OpenSpec.ofChange ivalSumsSpec)

/-- ITS FALSE NEIGHBOUR: 'it returns false'. Refute it at one input. -/
def ivalSumsWrong : ChangeSpec := { name := "ivalSums", fn := fun _ => fun
  | [d1, d2] => { results := [.lit (.bool false)], args := [d1, d2] }
  | _ => none }
def IvalSumsWrongFalsely : Prop := ivalSumsRow.holds Tryz.pinned (OpenSpec.ofChange ivalSumsWrong)

/-- 'trammellaw09.IvalProducts': WHATEVER THE INPUT: true; the input reads as it did. -/
def ivalProductsSpec : ChangeSpec := { name := "ivalProducts", fn := fun _ => fun
  | [d1, d2] => { results := [.lit (.bool true)], args := [d1, d2] }
  | _ => none }
def ivalProductsRow : OpenClaim := { program := "ytgalppimdmjdcaagreat", sum := "f177870cda6c728d55343640515fd2a756196c1c506f0852c57f771465244842", func := "trammel/trammellaw09.IvalProducts", spec := "ivalProducts", inPlace := ["math.Float64frombits", "math.Float64bits"], apart := false }
def IvalProductsSaid : Prop := ivalProductsRow.holds Tryz.pinned (OpenSpec.ofChange ivalProductsSpec)

/-- ITS FALSE NEIGHBOUR: 'it returns false'. Refute it at one input. -/
def ivalProductsWrong : ChangeSpec := { name := "ivalProducts", fn := fun _ => fun
  | [d1, d2] => { results := [.lit (.bool false)], args := [d1, d2] }
  | _ => none }
def IvalProductsWrongFalsely : Prop := ivalProductsRow.holds Tryz.pinned (OpenSpec.ofChange ivalProductsWrong)

/-- 'trammellaw09.IvalOrders': WHATEVER THE INPUT: true; the input reads as it did. -/
def ivalOrdersSpec : ChangeSpec := { name := "ivalOrders", fn := fun _ => fun
  | [d1, d2, d3] => { results := [.lit (.bool true)], args := [d1, d2, d3] }
  | _ => none }
def ivalOrdersRow : OpenClaim := { program := "ytgalppimdmjdcaagreat", sum := "f177870cda6c728d55343640515fd2a756196c1c506f0852c57f771465244842", func := "trammel/trammellaw09.IvalOrders", spec := "ivalOrders", inPlace := ["math.Float64bits", "math.Float64frombits"], apart := false }
def IvalOrdersSaid : Prop := ivalOrdersRow.holds Tryz.pinned (OpenSpec.ofChange ivalOrdersSpec)

/-- ITS FALSE NEIGHBOUR: 'it returns false'. Refute it at one input. -/
def ivalOrdersWrong : ChangeSpec := { name := "ivalOrders", fn := fun _ => fun
  | [d1, d2, d3] => { results := [.lit (.bool false)], args := [d1, d2, d3] }
  | _ => none }
def IvalOrdersWrongFalsely : Prop := ivalOrdersRow.holds Tryz.pinned (OpenSpec.ofChange ivalOrdersWrong)

/- THE SECOND FORM. 'bulk': how many values and letters a reading holds, each counted each time it is reached (what is shared counts as often as it is met; a slice's spare places count too). A statement '..UptoSaid' is the law's where the arguments, and the package variables that the reading takes, are together of bulk at most 1048576: NARROWER than '..Said'. Prove '..Said' where nothing that the law and all that it calls make is longer than what came in: it says more and counts as full. Else prove '..UptoSaid'. A law counts once. -/
mutual
def uptoBulk {H : Type} : DataW H → Nat
  | .lit (.string bytes) => bytes.length + 1
  | .lit _ => 1
  | .nil => 1
  | .ptr d => uptoBulk d + 1
  | .slice elems spare => uptoBulkAll elems + uptoBulkAll spare + 1
  | .agg parts => uptoBulkAll parts + 1
  | .iface _ d => uptoBulk d + 1
  | .map entries => uptoBulkEntries entries + 1
  | .held _ => 1
def uptoBulkAll {H : Type} : List (DataW H) → Nat
  | [] => 0
  | d :: r => uptoBulk d + uptoBulkAll r
def uptoBulkEntries {H : Type} : List (Lit × DataW H) → Nat
  | [] => 0
  | x :: r => uptoBulkEntry x + uptoBulkEntries r
def uptoBulkEntry {H : Type} : Lit × DataW H → Nat
  | (.string bytes, d) => bytes.length + uptoBulk d + 1
  | (_, d) => uptoBulk d + 1
 end
def uptoSmall : (H : Type) → List (DataW H) → Bool := fun _ ds => decide (uptoBulkAll ds ≤ 1048576)
def OpenSpec.upto (s : _root_.Go.ChangeSpec) : _root_.Go.OpenSpec := { _root_.Go.OpenSpec.ofChange s with cond := some uptoSmall }

/-- 'trammellaw09.IvalSteps', WHERE WHAT IT READS IS OF BULK AT MOST 1048576: true; the input reads as it did. -/
def ivalStepsUptoRow : OpenClaim := { program := "ytgalppimdmjdcaagreat", sum := "f177870cda6c728d55343640515fd2a756196c1c506f0852c57f771465244842", func := "trammel/trammellaw09.IvalSteps", spec := "ivalSteps", inPlace := ["math.Float64frombits", "math.Float64bits"], apart := false, narrowed := true }
def IvalStepsUptoSaid : Prop := ivalStepsUptoRow.holds Tryz.pinned (OpenSpec.upto ivalStepsSpec)

/-- 'trammellaw09.IvalSums', WHERE WHAT IT READS IS OF BULK AT MOST 1048576: true; the input reads as it did. -/
def ivalSumsUptoRow : OpenClaim := { program := "ytgalppimdmjdcaagreat", sum := "f177870cda6c728d55343640515fd2a756196c1c506f0852c57f771465244842", func := "trammel/trammellaw09.IvalSums", spec := "ivalSums", inPlace := ["math.Float64frombits", "math.Float64bits"], apart := false, narrowed := true }
def IvalSumsUptoSaid : Prop := ivalSumsUptoRow.holds Tryz.pinned (OpenSpec.upto ivalSumsSpec)

/-- 'trammellaw09.IvalProducts', WHERE WHAT IT READS IS OF BULK AT MOST 1048576: true; the input reads as it did. -/
def ivalProductsUptoRow : OpenClaim := { program := "ytgalppimdmjdcaagreat", sum := "f177870cda6c728d55343640515fd2a756196c1c506f0852c57f771465244842", func := "trammel/trammellaw09.IvalProducts", spec := "ivalProducts", inPlace := ["math.Float64frombits", "math.Float64bits"], apart := false, narrowed := true }
def IvalProductsUptoSaid : Prop := ivalProductsUptoRow.holds Tryz.pinned (OpenSpec.upto ivalProductsSpec)

/-- 'trammellaw09.IvalOrders', WHERE WHAT IT READS IS OF BULK AT MOST 1048576: true; the input reads as it did. -/
def ivalOrdersUptoRow : OpenClaim := { program := "ytgalppimdmjdcaagreat", sum := "f177870cda6c728d55343640515fd2a756196c1c506f0852c57f771465244842", func := "trammel/trammellaw09.IvalOrders", spec := "ivalOrders", inPlace := ["math.Float64bits", "math.Float64frombits"], apart := false, narrowed := true }
def IvalOrdersUptoSaid : Prop := ivalOrdersUptoRow.holds Tryz.pinned (OpenSpec.upto ivalOrdersSpec)

end Rows
end Go.Proofs.YtgalppimdmjdcaaGreat
