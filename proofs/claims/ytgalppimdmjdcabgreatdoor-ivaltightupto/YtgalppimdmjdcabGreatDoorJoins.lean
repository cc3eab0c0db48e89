/-
  Where two ways of the code meet: what is known there, and what comes behind, proved once.
-/
import Derived.Test.YtgalppimdmjdcabGreatDoorSetQ
namespace Go.Proofs.YtgalppimdmjdcabGreatDoor
open Go Go.RowKit
set_option linter.unusedSimpArgs false
set_option linter.unusedVariables false
set_option maxRecDepth 20000
section
variable {P : Program} {Q : Exit → Act → World → Prop} {a : Act} {w : World}
end
section
variable {ops : Array Oper} {l : List Kd} {bx : Bxs} {sl : List (Tmp × Pr)} {i : Nat} {o : Oper} {Q : Exit → Act → World → Prop} {a0 : Act} {n : Nat} {w0 : World}
/-- Not wanted, and what hangs on it neither. -/
theorem owe_offv (j d : Nat) {b b' : Bool} (ho : ops[i]? = some o) (hk : kdAt l i = .val (Is undef)) (hg : o.guard = some (j, b)) (h : ((depsOf ops i).contains j && (dstOf ops j == some d)) = true) (hkj : kdAt l j = .val (Is (.bool b'))) (hb : b' ≠ b) : Owed Tryz.prog ops Q l bx sl a0 n w0 i := fun vs B a w c o' ho' => by
  obtain rfl : o = o' := Option.some.inj (ho.symm.trans ho')
  have hv := (opnd_op (bx := bx) (sl := sl) j d h hkj a0 n w0 vs B a w c).now
  simp only [Bool.and_eq_true, List.contains_iff_mem, beq_iff_eq] at h
  simp only [wpOp, ho]
  rw [if_neg (by simp [Region.wanted, hg, yielded_of h.2 hv]; exact hb)]
  exact ⟨undef, rfl, by rw [hk]; exact ⟨Below.refl _ _, fun _ _ => rfl⟩⟩
theorem owe_offu (j d : Nat) {b : Bool} (ho : ops[i]? = some o) (hk : kdAt l i = .off) (hg : o.guard = some (j, b)) (h : ((depsOf ops i).contains j && (dstOf ops j == some d)) = true) (hkj : kdAt l j = .val (Is undef)) : Owed Tryz.prog ops Q l bx sl a0 n w0 i := fun vs B a w c o' ho' => by
  obtain rfl : o = o' := Option.some.inj (ho.symm.trans ho')
  have hv : a.eval (.tmp d) = undef := (opnd_op (bx := bx) (sl := sl) j d h hkj a0 n w0 vs B a w c).now
  simp only [Bool.and_eq_true, List.contains_iff_mem, beq_iff_eq] at h
  have hd' : ((ops[j]?).bind (·.dst)) = some d := h.2
  have hy : yielded ops a.tmps j = none := by
    simp only [Act.eval] at hv
    cases hx : a.tmps[d]? with
    | none => simp [yielded, hd', hx]
    | some v => simp [hx] at hv; subst hv; simp [yielded, hd', hx, undef]
  simp only [wpOp, ho]
  rw [if_neg (by simp [Region.wanted, hg, hy])]
  exact ⟨undef, rfl, by rw [hk]; rfl⟩
end
end Go.Proofs.YtgalppimdmjdcabGreatDoor
