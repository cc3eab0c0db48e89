import Derived.Test.YtpfdkplmjhablaaGreatDoorSetM
import Derived.Test.YtpfdkplmjhablaaGreatDoorSetX
import Derived.Test.YtpfdkplmjhablaaGreatDoorSetK
import Derived.Test.YtpfdkplmjhablaaGreatDoorSetE
import Derived.Test.YtpfdkplmjhablaaGreatDoorSetB
/-
 zint's calls upon numbers that have names: what comes back has a name too.
-/
namespace Go.Proofs.YtpfdkplmjhablaaGreatDoor
open Go.RowKit Nt
set_option linter.unusedSimpArgs false
set_option linter.unusedVariables false
set_option maxRecDepth 20000

/-- Sign, length and limbs of a whole number in one form. -/
structure Nm (b : Bool) (L : Nat) (D : List Nat) (z : Int) : Prop where
 sgn : b = ng z
 dgs : D = digs z.natAbs
 len : D.length = L
theorem Nm.sg {b : Bool} {L : Nat} {D : List Nat} {z : Int} (h : Nm b L D z) : Go.Proofs.YtpfdkplmjhablaaGreatDoor.sg b (val D) = z := by rw [h.sgn, h.dgs, val_digs, sg_sign]
theorem Nm.same {b b' : Bool} {L L' : Nat} {D D' : List Nat} {z z' : Int} (h : Nm b L D z) (h' : Nm b' L' D' z') (e : z = z') : b = b' ∧ D = D' := by
 subst e
 exact ⟨h.sgn.trans h'.sgn.symm, h.dgs.trans h'.dgs.symm⟩
theorem Nm.mk' (z : Int) : Nm (ng z) (digs z.natAbs).length (digs z.natAbs) z := ⟨rfl, rfl, rfl⟩

end Go.Proofs.YtpfdkplmjhablaaGreatDoor

/-
 Quotients: the floor of A / B and what is left; zint.Floor.
-/
namespace Go.Proofs.YtpfdkplmjhablaaGreatDoor
open Go.RowKit Nt
set_option linter.unusedSimpArgs false
set_option linter.unusedVariables false
set_option maxRecDepth 20000

/-- The floor of A / B. -/
def fl (A B : Int) : Int := if 0 < B then A / B else (-A) / (-B)
/-- What is left. -/
def rm (A B : Int) : Int := A - fl A B * B
theorem fl_unique {A B q r : Int} (hB : B ≠ 0) (e : A = q * B + r) (h1 : 0 < B → 0 ≤ r ∧ r < B) (h2 : B < 0 → B < r ∧ r ≤ 0) : fl A B = q ∧ rm A B = r := by
 have key : fl A B = q := by
  unfold fl
  by_cases hp : 0 < B
  ·rw [if_pos hp]
   have := h1 hp
   exact ((Int.ediv_emod_unique hp).2 ⟨by rw [Int.mul_comm]; omega, this.1, this.2⟩).1
  ·rw [if_neg hp]
   have hn : B < 0 := by omega
   have := h2 hn
   refine ((Int.ediv_emod_unique (r := -r) (by omega)).2 ⟨?_, by omega, by omega⟩).1
   rw [Int.mul_comm, Int.mul_neg]
   omega
 refine ⟨key, ?_⟩
 unfold rm
 rw [key]
 omega

theorem floor_plain (s t : Bool) (x y : Nat) (hy : y ≠ 0) (h : s = t ∨ x % y = 0) : fl (sg s x) (sg t y) = sg (s != t) (x / y) ∧ rm (sg s x) (sg t y) = sg t (x % y) := by
 have hlt := Nat.mod_lt x (Nat.pos_of_ne_zero hy)
 have e : ((y * (x / y) + x % y : Nat) : Int) = (x : Int) := by rw [Nat.div_add_mod]
 rw [Int.natCast_add, Int.natCast_mul] at e
 obtain ⟨q, hq⟩ : ∃ q, x / y = q := ⟨_, rfl⟩
 obtain ⟨r, hr⟩ : ∃ r, x % y = r := ⟨_, rfl⟩
 rw [hq, hr] at e ⊢
 rw [hr] at hlt h
 rw [Int.mul_comm] at e
 refine fl_unique ?_ ?_ ?_ ?_
 ·cases t <;> simp [sg] <;> omega
 ·cases s <;> cases t <;> simp [sg, Int.neg_mul, Int.mul_neg] at * <;> omega
 ·cases t <;> simp [sg] <;> omega
 ·cases t <;> simp [sg] <;> omega
theorem floor_up (s t : Bool) (x y : Nat) (hy : y ≠ 0) (h : s ≠ t) (h0 : x % y ≠ 0) : fl (sg s x) (sg t y) = sg (s != t) (x / y + 1) ∧ rm (sg s x) (sg t y) = sg t (y - x % y) := by
 have hlt := Nat.mod_lt x (Nat.pos_of_ne_zero hy)
 have e : ((y * (x / y) + x % y : Nat) : Int) = (x : Int) := by rw [Nat.div_add_mod]
 rw [Int.natCast_add, Int.natCast_mul] at e
 obtain ⟨q, hq⟩ : ∃ q, x / y = q := ⟨_, rfl⟩
 obtain ⟨r, hr⟩ : ∃ r, x % y = r := ⟨_, rfl⟩
 rw [hq, hr] at e ⊢
 rw [hr] at hlt h0
 rw [Int.mul_comm] at e
 have e2 : ((y - r : Nat) : Int) = (y : Int) - r := by omega
 refine fl_unique ?_ ?_ ?_ ?_
 ·cases t <;> simp [sg] <;> omega
 ·cases s <;> cases t <;> simp [sg, Int.neg_mul, Int.mul_neg, Int.add_mul, e2] at * <;> omega
 ·cases t <;> simp [sg, e2] <;> omega
 ·cases t <;> simp [sg, e2] <;> omega

theorem boxFar {w : World} {b b' n c : Nat} {neg : Bool} {p : Option Addr} {v0 v1 : Value} (h : Box w b neg p n c) (hb : b ≠ b') : Box ((w.setCell ⟨b', 0, none⟩ v0).setCell ⟨b', 1, none⟩ v1) b neg p n c := by
 show _ = _
 rw [Below.heap_setCell _ _ _ _ (by simpa using hb), Below.heap_setCell _ _ _ _ (by simpa using hb)]
 exact h

/-- What stays true on the way to two structs that are handed back. -/
structure Inv2 (w w' : World) (g2 g3 : Nat) : Prop where
 below : Below w.heap.size w w'
 box2 : ∃ b r n c, Box w' g2 b r n c
 box3 : ∃ b r n c, Box w' g3 b r n c
 fresh : w.heap.size ≤ g2
 next : g2 < g3
theorem Inv2.drew {w w' : World} {g2 g3 : Nat} (h : Inv2 w w' g2 g3) : Inv2 w w'.drew g2 g3 := ⟨h.below.drew, h.box2, h.box3, h.fresh, h.next⟩
theorem Inv2.call {w w' w'' : World} {g2 g3 : Nat} (h : Inv2 w w' g2 g3) (hb : Below w'.heap.size w' w'') : Inv2 w w'' g2 g3 := by
 obtain ⟨b, r, n, c, hx⟩ := h.box2
 obtain ⟨b', r', n', c', hx'⟩ := h.box3
 exact ⟨h.below.trans (hb.mono h.below.size), ⟨b, r, n, c, hx.below hb⟩, ⟨b', r', n', c', hx'.below hb⟩, h.fresh, h.next⟩
theorem Inv2.lt {w w' : World} {g2 g3 : Nat} (h : Inv2 w w' g2 g3) : g3 < w'.heap.size := by
 obtain ⟨b', r', n', c', hx'⟩ := h.box3
 exact hx'.lt
end Go.Proofs.YtpfdkplmjhablaaGreatDoor

/-
 zint.Floor, whole.
-/
namespace Go.Proofs.YtpfdkplmjhablaaGreatDoor
open Go.RowKit Nt
set_option linter.unusedSimpArgs false
set_option linter.unusedVariables false
set_option maxRecDepth 20000

end Go.Proofs.YtpfdkplmjhablaaGreatDoor
