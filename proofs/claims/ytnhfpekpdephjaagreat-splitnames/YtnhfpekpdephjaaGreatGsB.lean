import Derived.Test.YtnhfpekpdephjaaGreatGsA
import Derived.Test.YtnhfpekpdephjaaGreatSetV
import Derived.Test.YtnhfpekpdephjaaGreatSetG
import Derived.Test.YtnhfpekpdephjaaGreatMConts
import Derived.Test.YtnhfpekpdephjaaGreatSetQ
import Derived.Test.YtnhfpekpdephjaaGreatSetH
/-
 Layer 5 in the logic: the struct of the data, its rules; what the program reckons, as functions.
-/
namespace Go.Proofs.YtnhfpekpdephjaaGreat
open Go Go.RowKit Nt
set_option linter.unusedSimpArgs false
set_option linter.unusedVariables false
set_option maxRecDepth 20000

theorem strct_gso : Strct 29 2 := ⟨⟨_, Tryz.underlying29, rfl⟩, by kernel_rfl⟩
theorem shp_sf2 {p q : Pr} : Shp 2 (SF [p, q]) := shp_sf (ps := [p, q])
theorem box_gso {φ : Pr} (h : Shp 2 φ) (ρ : Operand → Value) (o : Oper) (x : Operand) (w : World) (hφ : φ (ρ x) w) : (execOp ρ { o with op := .box 29 x }).run Tryz.prog w = .ok (.value (.pointer (some ⟨w.heap.size, 0, none⟩))) (w.alloc (.cells (ρ x).cells 29 (0, 0))) := by
 obtain ⟨cs, e, h1, h2⟩ := h _ _ hφ
 unfold execOp
 rw [e]
 go_simp
theorem part_gso0 (ρ : Operand → Value) (o : Oper) (x : Operand) (w : World) (b f : Nat) (h : ρ x = .pointer (some ⟨b, f, none⟩)) : (execOp ρ { o with op := .fieldAddr 29 x 0 }).run Tryz.prog w = .ok (.value (.pointer (some ⟨b, f, none⟩))) w := by
 unfold execOp
 go_simp
theorem part_gso1 (ρ : Operand → Value) (o : Oper) (x : Operand) (w : World) (b f : Nat) (h : ρ x = .pointer (some ⟨b, f, none⟩)) : (execOp ρ { o with op := .fieldAddr 29 x 1 }).run Tryz.prog w = .ok (.value (.pointer (some ⟨b, f + 1, none⟩))) w := by
 unfold execOp
 go_simp
theorem ploadS {ps : List Pr} {χ : Pr} {f : Nat} {T T' : TypeId} (hp : ps[f]? = some χ) (hL : Load1 T') (ρ : Operand → Value) (o : Oper) (x : Operand) (w : World) (b : Nat) (u : Value) (hφ : SF ps u w) (hx : ρ x = .pointer (some ⟨b, f, none⟩)) (hb : w.heap[b]? = some (.cells u.cells T (0, 0))) :
  ∃ v, (execOp ρ { o with op := .load T' x }).run Tryz.prog w = .ok (.value v) w ∧ ∀ w', SF ps u w' → χ v w' := by
 obtain ⟨cs, rfl, h1, h2, h3⟩ := hφ
 obtain ⟨v, hv, _⟩ := h3 f χ hp
 refine ⟨v, hL ρ w o x b f v hx (sf_cell hb hv), fun w' h' => ?_⟩
 obtain ⟨_, _, h4⟩ := h'.get
 obtain ⟨v', hv', hχ⟩ := h4 f χ hp
 rw [hv] at hv'
 cases hv'
 exact hχ
section
variable {ops : Array Oper} {l : List Kd} {bx : Bxs} {sl : List (Tmp × Pr)} {i : Nat} {o : Oper} {Q : Exit → Act → World → Prop} {a0 : Act} {n : Nat} {w0 : World}
end

theorem zv_at {D : List Int} {K k : Nat} (h : k < D.length) : (D.map (fun z => Zv z K))[k]? = some (Zv (D.getD k 0) K) := by
 rw [List.getElem?_map, List.getElem?_eq_getElem h, List.getD_eq_getElem?_getD, List.getElem?_eq_getElem h]
 rfl
theorem vv_at {A : List (List Int)} {K k : Nat} (h : k < A.length) : (A.map (fun zs => Vv zs.length zs K))[k]? = some (Vv (A.getD k []).length (A.getD k []) K) := by
 rw [List.getElem?_map, List.getElem?_eq_getElem h, List.getD_eq_getElem?_getD, List.getElem?_eq_getElem h]
 rfl
end Go.Proofs.YtnhfpekpdephjaaGreat

/-
 gso.takenOut.
-/
namespace Go.Proofs.YtnhfpekpdephjaaGreat
open Go Go.RowKit Nt
set_option linter.unusedSimpArgs false
set_option linter.unusedVariables false
set_option maxRecDepth 20000


end Go.Proofs.YtnhfpekpdephjaaGreat

/-
 gso.left.
-/
namespace Go.Proofs.YtnhfpekpdephjaaGreat
open Go Go.RowKit Nt
set_option linter.unusedSimpArgs false
set_option linter.unusedVariables false
set_option maxRecDepth 20000


section
variable {ops : Array Oper} {l : List Kd} {bx : Bxs} {sl : List (Tmp × Pr)} {i : Nat} {o : Oper} {Q : Exit → Act → World → Prop} {a0 : Act} {n : Nat} {w0 : World} {vs : Nat → Value} {B : Nat → Prop} {a : Act} {w : World}
end
section
variable {ops : Array Oper} {l : List Kd} {bx : Bxs} {sl : List (Tmp × Pr)} {i : Nat} {o : Oper} {Q : Exit → Act → World → Prop} {a0 : Act} {n : Nat} {w0 : World}
end

end Go.Proofs.YtnhfpekpdephjaaGreat

/-
 gso.framed, where it is well.
-/
namespace Go.Proofs.YtnhfpekpdephjaaGreat
open Go Go.RowKit Nt
set_option linter.unusedSimpArgs false
set_option linter.unusedVariables false
set_option maxRecDepth 20000


end Go.Proofs.YtnhfpekpdephjaaGreat

/-
 gso.Wide.
-/
namespace Go.Proofs.YtnhfpekpdephjaaGreat
open Go Go.RowKit Nt
set_option linter.unusedSimpArgs false
set_option linter.unusedVariables false
set_option maxRecDepth 20000


theorem one_dl : (digs (1 : Int).natAbs).length ≤ 1 := digs_length_le (by decide)
section
variable {ops : Array Oper} {l : List Kd} {bx : Bxs} {sl : List (Tmp × Pr)} {i : Nat} {o : Oper} {Q : Exit → Act → World → Prop} {a0 : Act} {n : Nat} {w0 : World}
end
end Go.Proofs.YtnhfpekpdephjaaGreat
