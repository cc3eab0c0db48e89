import Derived.Test.YtnhfpekpdephjaaGreatSetO
import Derived.Test.YtnhfpekpdephjaaGreatGsA
import Derived.Test.YtnhfpekpdephjaaGreatGrid
/-
 A statement in which what one operation leaves is told by the handle that another one has made.
-/
namespace Go.Proofs.YtnhfpekpdephjaaGreat
open Go Go.RowKit
set_option linter.unusedSimpArgs false
set_option linter.unusedVariables false
set_option maxRecDepth 20000

section
variable {P : Program} {ops : Array Oper} {Q : Exit → Act → World → Prop} {l l' : List Kd} {bx : Bxs} {sl : List (Tmp × Pr)} {n : Nat} {B0 : Nat → Prop} {a0 : Act} {W w0 : World} {L : Nat → Bool}

theorem Alive.congr (h : ∀ i, L i = true → kdAt l i = kdAt l' i) {x : Id} (hx : Alive l bx L x) : Alive l' bx L x := by
 refine ⟨fun i r t hi hk => hx.1 i r t hi ((h i hi).trans hk), ?_⟩
 cases x with
 | inl t => exact hx.2
 | inr i => exact ⟨hx.2.1, by rw [← h i hx.2.1]; exact hx.2.2⟩
theorem Alive.ran {x : Id} (hx : Alive l bx L x) : ∀ j, x = .inr j → L j = true := fun j e => by subst e; exact hx.2.1
theorem Init.congr (h : ∀ i, L i = true → kdAt l i = kdAt l' i) {x : Id} {r : Rk} (hx : ∀ j, x = .inr j → L j = true) (hi : Init l bx x r) : Init l' bx x r := by
 cases x with
 | inl t => exact hi
 | inr i => show (kdAt l' i).rk = some r; rw [← h i (hx i rfl)]; exact hi
theorem idset.congr (h : ∀ i, L i = true → kdAt l i = kdAt l' i) {vs : Nat → Value} {x : Id} {b : Nat} (hx : ∀ j, x = .inr j → L j = true) (hi : idset l bx a0 vs x b) : idset l' bx a0 vs x b := by
 obtain ⟨r, h1, h2⟩ := hi
 exact ⟨r, Init.congr h hx h1, h2⟩
theorem Held.congr (S : Shape ops l bx n) (h : ∀ i, L i = true → kdAt l i = kdAt l' i) {vs : Nat → Value} {B : Nat → Prop} {w : World} (H : Held ops l bx B0 a0 W w0 L vs B w) : Held ops l' bx B0 a0 W w0 L vs B w := by
 have h' : ∀ i, L i = true → kdAt l' i = kdAt l i := fun i hi => (h i hi).symm
 refine ⟨H.ent, H.ev, H.bnd, H.old, H.deps, fun i φ hi hk => H.val i φ hi (by rw [h i hi]; exact hk), fun i j hi hk => H.rf i j hi ((h i hi).trans hk), fun x r hx hin hn => ?_, fun i x r hi hk hx hlast => ?_, fun x b hx hb => ?_, fun x y b hx hy hbx hby => ?_, fun i x r hi hk b hb => ?_⟩
 ·exact H.live x r (hx.congr h') (Init.congr h' hx.ran hin) (fun i r' hi hk => hn i r' hi (by rw [← h i hi]; exact hk))
 ·exact H.put i x r hi (by rw [h i hi]; exact hk) (hx.congr h') (fun k hk' ht => hlast k hk' (by rw [← h k hk']; exact ht))
 ·exact H.inB x b (hx.congr h') (idset.congr h' hx.ran hb)
 ·exact H.sep x y b (hx.congr h') (hy.congr h') (idset.congr h' hx.ran hbx) (idset.congr h' hy.ran hby)
 ·have hk' : (kdAt l i).pt = some (x, r) := by rw [h i hi]; exact hk
  refine idset.congr h (fun j e => ?_) (H.pset i x r hi hk' b hb)
  subst e
  exact (H.deps i hi).2 j (S.tnew i j (H.deps i hi).1 (Kd.pt_turns hk')).1

/-- What is owed of operation number i, where operation j has made x. -/
def OwedX (P : Program) (ops : Array Oper) (Q : Exit → Act → World → Prop) (l : List Kd) (bx : Bxs) (sl : List (Tmp × Pr)) (a0 : Act) (n : Nat) (w0 : World) (j : Nat) (x : Value) (i : Nat) : Prop :=
 ∀ (vs : Nat → Value) (B : Nat → Prop) (a : Act) (w : World), vs j = x → Ctx ops l bx sl a0 n w0 i vs B a w → ∀ o, ops[i]? = some o → wpOp P ops Q i (fun a' w' => ∃ v, a' = a.put o.dst v ∧ (kdAt l i).out l bx w0.heap.size a0 vs B w v w') a w
theorem Owed.x {i j : Nat} {x : Value} (h : Owed P ops Q l bx sl a0 n w0 i) : OwedX P ops Q l bx sl a0 n w0 j x i := fun vs B a w _ c => h vs B a w c

variable {lv : Value → List Kd} {j : Nat}
/-- The handle that operation j has made, as an operand. -/
theorem Ctx.made {vs : Nat → Value} {B : Nat → Prop} {a : Act} {w : World} {i j d : Nat} {r : Rk} (c : Ctx ops l bx sl a0 n w0 i vs B a w) (hj : (depsOf ops i).contains j = true) (hk : (kdAt l j).rk = some r) (hd : dstOf ops j = some d) : a.eval (.tmp d) = vs j := (c.news j d r (by simpa using hj) hk hd).1
end
end Go.Proofs.YtnhfpekpdephjaaGreat

/-
 Rows of the call's own whose handles are known, written in place.
-/
namespace Go.Proofs.YtnhfpekpdephjaaGreat
open Go Go.RowKit Nt
set_option linter.unusedSimpArgs false
set_option linter.unusedVariables false
set_option maxRecDepth 20000

section
variable {ops : Array Oper} {l : List Kd} {bx : Bxs} {sl : List (Tmp × Pr)} {i : Nat} {o : Oper} {Q : Exit → Act → World → Prop} {a0 : Act} {n0 : Nat} {w0 : World}
end
end Go.Proofs.YtnhfpekpdephjaaGreat
