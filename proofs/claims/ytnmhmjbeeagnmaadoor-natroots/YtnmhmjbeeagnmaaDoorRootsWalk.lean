/-
  NatRoots' walk: it returns true and writes nothing that was there.
-/
import Derived.Test.YtnmhmjbeeagnmaaDoorDivZero
import Derived.Test.YtnmhmjbeeagnmaaDoorRefRoot
import Derived.Test.YtnmhmjbeeagnmaaDoorRefGcd
import Derived.Test.YtnmhmjbeeagnmaaDoorCopyTouch
import Derived.Test.YtnmhmjbeeagnmaaDoorAwake
namespace Go.Proofs.YtnmhmjbeeagnmaaDoor
open Go.RowKit Nt
set_option linter.unusedSimpArgs false
set_option linter.unusedVariables false

set_option maxHeartbeats 8000000 in
theorem roots_walk (w : World) (p0 : Option Addr) (n0 c0 : Nat) (xs0 : List Nat) (p1 : Option Addr) (n1 c1 : Nat) (xs1 : List Nat) (h0 : Sl w p0 n0 c0 xs0) (h1 : Sl w p1 n1 c1 xs1)
    (b0 : c0 ≤ 35184372087808) (b1 : c1 ≤ 35184372087808) :
    Calls Tryd.prog 3 #[.slice p0 n0 c0, .slice p1 n1 c1] w fun e w' => e = .returned (.bool true) ∧ Below w.heap.size w w' := by
  have hn0 : n0 ≤ 35184372087808 := Nat.le_trans h0.cap b0
  have hn1 : n1 ≤ 35184372087808 := Nat.le_trans h1.cap b1
  have L0 := hid h0
  have L1 := hid h1
  have L_a := hid h0
  have L_b := hid h1
  have HB := hid (Below.refl w.heap.size w)
  clear h0 h1
  go_enter Tryd.func3, Tryd.ntmps3
  go_wp2_with fail
  refine (copied_c _ p0 n0 c0 xs0 L_a.out b0).mono ?_
  rintro e W1 ⟨gx, crx, rfl, C1⟩
  have B1 : Below w.heap.size w W1 := C1.below
  replace L_a := hid (L_a.out.below B1)
  replace L_b := hid (L_b.out.below B1)
  replace HB := hid (HB.out.trans (B1.mono HB.out.size))
  have HCx := hid (C1)
  clear B1
  clear C1
  go_wp2_with fail
  refine (copied_c _ p1 n1 c1 xs1 L_b.out b1).mono ?_
  rintro e W2 ⟨gy, cry, rfl, C2⟩
  have B2 : Below W1.heap.size W1 W2 := C2.below
  replace L_a := hid (L_a.out.below B2)
  replace L_b := hid (L_b.out.below B2)
  replace HB := hid (HB.out.trans (B2.mono HB.out.size))
  replace HCx := hid (HCx.out.later B2)
  have HCy := hid (C2)
  clear B2
  clear C2
  have S_x := hid (HCx.out.sl L0.out.ok L0.out.len)
  have S_y := hid (HCy.out.sl L1.out.ok L1.out.len)
  go_wp2_with fail
  refine (gcd_c _ _ _ n0 crx n1 cry xs0 xs1 S_x.out S_y.out (by omega) (by omega)).mono ?_
  rintro e W3 ⟨rg, cg, rfl, R3⟩
  have B3 : Below W2.heap.size W2 W3 := R3.below
  replace L_a := hid (L_a.out.below B3)
  replace L_b := hid (L_b.out.below B3)
  replace HB := hid (HB.out.trans (B3.mono HB.out.size))
  replace HCx := hid (HCx.out.later B3)
  replace HCy := hid (HCy.out.later B3)
  replace S_x := hid (S_x.out.below B3)
  replace S_y := hid (S_y.out.below B3)
  have S_g := hid (R3.sl)
  clear B3
  clear R3
  go_wp2_with fail
  refine (rgcd_c _ p0 p1 n0 c0 n1 c1 xs0 xs1 L_a.out L_b.out (by omega) (by omega)).mono ?_
  rintro e W4 ⟨rh, ch, rfl, A4⟩
  have B4 : Below W3.heap.size W3 W4 := A4.below
  replace L_a := hid (L_a.out.below B4)
  replace L_b := hid (L_b.out.below B4)
  replace HB := hid (HB.out.trans (B4.mono HB.out.size))
  replace HCx := hid (HCx.out.later B4)
  replace HCy := hid (HCy.out.later B4)
  replace S_x := hid (S_x.out.below B4)
  replace S_y := hid (S_y.out.below B4)
  replace S_g := hid (S_g.out.below B4)
  have S_h := hid (A4.sl)
  clear B4
  clear A4
  go_wp2_with fail
  refine (same_c _ rg rh _ _ _ _ _ S_g.out S_h.out).mono ?_
  rintro e wq ⟨rfl, nq, rfl⟩
  generalize hW5 : World.drewN W4 nq = W5
  have B5 : Below W4.heap.size W4 W5 := by rw [← hW5]; exact below_drewN' (Below.refl _ _) nq
  replace L_a := hid (L_a.out.below B5)
  replace L_b := hid (L_b.out.below B5)
  replace HB := hid (HB.out.trans (B5.mono HB.out.size))
  replace HCx := hid (HCx.out.later B5)
  replace HCy := hid (HCy.out.later B5)
  replace S_x := hid (S_x.out.below B5)
  replace S_y := hid (S_y.out.below B5)
  replace S_g := hid (S_g.out.below B5)
  replace S_h := hid (S_h.out.below B5)
  clear B5 hW5
  clear S_g S_h S_y
  go_wp2_with fail
  refine (root_c _ _ n0 crx xs0 S_x.out (by omega)).mono ?_
  rintro e W6 ⟨Ro, ro, co, rfl, R6, I6⟩
  have B6 : Below W5.heap.size W5 W6 := R6.below
  replace L_a := hid (L_a.out.below B6)
  replace L_b := hid (L_b.out.below B6)
  replace HB := hid (HB.out.trans (B6.mono HB.out.size))
  replace HCx := hid (HCx.out.later B6)
  replace HCy := hid (HCy.out.later B6)
  replace S_x := hid (S_x.out.below B6)
  have S_o := hid (R6.sl)
  clear B6
  have HI := hid I6
  clear R6 I6
  go_wp2_with fail
  refine (rroot_c _ p0 n0 c0 xs0 L_a.out (by omega)).mono ?_
  rintro e W7 ⟨Rp, rp, cp, rfl, T7, U7, I7⟩
  have B7 : Below W6.heap.size W6 W7 := U7
  replace L_a := hid (L_a.out.below B7)
  replace L_b := hid (L_b.out.below B7)
  replace HB := hid (HB.out.trans (B7.mono HB.out.size))
  replace HCx := hid (HCx.out.later B7)
  replace HCy := hid (HCy.out.later B7)
  replace S_x := hid (S_x.out.below B7)
  replace S_o := hid (S_o.out.below B7)
  have S_p := hid (T7)
  clear B7
  have HI2 := hid I7
  clear T7 U7 I7
  have hRR : Rp = Ro := isRoot_unique HI2.out HI.out
  subst hRR
  go_wp2_with fail
  refine (same_c _ ro rp _ _ _ _ _ S_o.out S_p.out).mono ?_
  rintro e wq ⟨rfl, nq, rfl⟩
  generalize hW8 : World.drewN W7 nq = W8
  have B8 : Below W7.heap.size W7 W8 := by rw [← hW8]; exact below_drewN' (Below.refl _ _) nq
  replace L_a := hid (L_a.out.below B8)
  replace L_b := hid (L_b.out.below B8)
  replace HB := hid (HB.out.trans (B8.mono HB.out.size))
  replace HCx := hid (HCx.out.later B8)
  replace HCy := hid (HCy.out.later B8)
  replace S_x := hid (S_x.out.below B8)
  replace S_o := hid (S_o.out.below B8)
  replace S_p := hid (S_p.out.below B8)
  clear B8 hW8
  clear S_o S_p S_x
  go_wp2_with fail
  refine (kept_c w _ gx n0 crx xs0 p0 c0 HCx.out L_a.out b0).mono ?_
  rintro e wq ⟨rfl, nq, rfl⟩
  generalize hW9 : World.drewN W8 nq = W9
  have B9 : Below W8.heap.size W8 W9 := by rw [← hW9]; exact below_drewN' (Below.refl _ _) nq
  replace L_a := hid (L_a.out.below B9)
  replace L_b := hid (L_b.out.below B9)
  replace HB := hid (HB.out.trans (B9.mono HB.out.size))
  replace HCx := hid (HCx.out.later B9)
  replace HCy := hid (HCy.out.later B9)
  clear B9 hW9
  go_wp2_with fail
  refine (kept_c W1 _ gy n1 cry xs1 p1 c1 HCy.out L_b.out b1).mono ?_
  rintro e wq ⟨rfl, nq, rfl⟩
  generalize hW10 : World.drewN W9 nq = W10
  have B10 : Below W9.heap.size W9 W10 := by rw [← hW10]; exact below_drewN' (Below.refl _ _) nq
  replace L_a := hid (L_a.out.below B10)
  replace L_b := hid (L_b.out.below B10)
  replace HB := hid (HB.out.trans (B10.mono HB.out.size))
  replace HCx := hid (HCx.out.later B10)
  replace HCy := hid (HCy.out.later B10)
  clear B10 hW10
  go_wp2_with fail
  refine (awake_c _).mono ?_
  rintro e W11 ⟨rfl, A11⟩
  have B11 : Below W10.heap.size W10 W11 := A11
  replace L_a := hid (L_a.out.below B11)
  replace L_b := hid (L_b.out.below B11)
  replace HB := hid (HB.out.trans (B11.mono HB.out.size))
  replace HCx := hid (HCx.out.later B11)
  replace HCy := hid (HCy.out.later B11)
  clear B11
  go_wp2
  go_ret
  exact ⟨rfl, HB.out⟩
end Go.Proofs.YtnmhmjbeeagnmaaDoor
