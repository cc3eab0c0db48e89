/-
  NatProducts' walk: it returns true and writes nothing that was there.
-/
import Derived.Test.YtgjkfegdnemjfaaDoorRefMul
import Derived.Test.YtgjkfegdnemjfaaDoorCopyTouch
import Derived.Test.YtgjkfegdnemjfaaDoorCalc
namespace Go.Proofs.YtgjkfegdnemjfaaDoor
open Go.RowKit Nt
set_option linter.unusedSimpArgs false
set_option linter.unusedVariables false

set_option maxHeartbeats 8000000 in
theorem products_walk (w : World) (p0 : Option Addr) (n0 c0 : Nat) (xs0 : List Nat) (p1 : Option Addr) (n1 c1 : Nat) (xs1 : List Nat) (h0 : Sl w p0 n0 c0 xs0) (h1 : Sl w p1 n1 c1 xs1)
    (b0 : c0 ≤ 1048576) (b1 : c1 ≤ 1048576) :
    Calls Tryd.prog 5 #[.slice p0 n0 c0, .slice p1 n1 c1] w fun e w' => e = .returned (.bool true) ∧ Below w.heap.size w w' := by
  have hn0 : n0 ≤ 1048576 := Nat.le_trans h0.cap b0
  have hn1 : n1 ≤ 1048576 := Nat.le_trans h1.cap b1
  have L0 := hid h0
  have L1 := hid h1
  have L_a := hid h0
  have L_b := hid h1
  clear h0 h1
  go_enter Tryd.func5, Tryd.ntmps5
  go_wp2_with fail
  refine (copied_c _ p0 n0 c0 xs0 L_a.out (by omega)).mono ?_
  rintro e W1 ⟨gx, crx, rfl, C1⟩
  have B1 : Below w.heap.size w W1 := C1.below
  replace L_a := hid (L_a.out.below B1)
  replace L_b := hid (L_b.out.below B1)
  have HCx := hid (C1)
  clear B1
  clear C1
  go_wp2_with fail
  refine (copied_c _ p1 n1 c1 xs1 L_b.out (by omega)).mono ?_
  rintro e W2 ⟨gy, cry, rfl, C2⟩
  have B2 : Below W1.heap.size W1 W2 := C2.below
  replace L_a := hid (L_a.out.below B2)
  replace L_b := hid (L_b.out.below B2)
  replace HCx := hid (HCx.out.later B2)
  have HCy := hid (C2)
  clear B2
  clear C2
  have S_x := hid (HCx.out.sl L0.out.ok L0.out.len)
  have S_y := hid (HCy.out.sl L1.out.ok L1.out.len)
  go_wp2_with fail
  refine (mul_c _ _ _ n0 crx n1 cry xs0 xs1 S_x.out S_y.out (by omega)).mono ?_
  rintro e W3 ⟨rs, cs, rfl, R3⟩
  have B3 : Below W2.heap.size W2 W3 := R3.below
  replace L_a := hid (L_a.out.below B3)
  replace L_b := hid (L_b.out.below B3)
  replace HCx := hid (HCx.out.later B3)
  replace HCy := hid (HCy.out.later B3)
  replace S_x := hid (S_x.out.below B3)
  replace S_y := hid (S_y.out.below B3)
  have L_s := hid (R3.sl)
  clear B3
  clear R3
  clear S_x S_y
  go_wp2_with fail
  refine (rmul_c _ p0 p1 n0 c0 n1 c1 xs0 xs1 L_a.out L_b.out (by omega)).mono ?_
  rintro e W4 ⟨rt, ct, rfl, A4⟩
  have B4 : Below W3.heap.size W3 W4 := A4.below
  replace L_a := hid (L_a.out.below B4)
  replace L_b := hid (L_b.out.below B4)
  replace HCx := hid (HCx.out.later B4)
  replace HCy := hid (HCy.out.later B4)
  replace L_s := hid (L_s.out.below B4)
  have L_t := hid (A4.sl)
  clear B4
  clear A4
  go_wp2_with fail
  refine (same_c _ rs rt _ _ _ _ _ L_s.out L_t.out).mono ?_
  rintro e wq ⟨rfl, nq, rfl⟩
  generalize hW5 : World.drewN W4 nq = W5
  have B5 : Below W4.heap.size W4 W5 := by rw [← hW5]; exact below_drewN' (Below.refl _ _) nq
  replace L_a := hid (L_a.out.below B5)
  replace L_b := hid (L_b.out.below B5)
  replace HCx := hid (HCx.out.later B5)
  replace HCy := hid (HCy.out.later B5)
  replace L_s := hid (L_s.out.below B5)
  replace L_t := hid (L_t.out.below B5)
  clear B5 hW5
  clear L_s L_t
  go_wp2_with fail
  refine (kept_c w _ gx n0 crx xs0 p0 c0 HCx.out L_a.out (by omega)).mono ?_
  rintro e wq ⟨rfl, nq, rfl⟩
  generalize hW6 : World.drewN W5 nq = W6
  have B6 : Below W5.heap.size W5 W6 := by rw [← hW6]; exact below_drewN' (Below.refl _ _) nq
  replace L_a := hid (L_a.out.below B6)
  replace L_b := hid (L_b.out.below B6)
  replace HCx := hid (HCx.out.later B6)
  replace HCy := hid (HCy.out.later B6)
  clear B6 hW6
  go_wp2_with fail
  refine (kept_c W1 _ gy n1 cry xs1 p1 c1 HCy.out L_b.out (by omega)).mono ?_
  rintro e wq ⟨rfl, nq, rfl⟩
  generalize hW7 : World.drewN W6 nq = W7
  have B7 : Below W6.heap.size W6 W7 := by rw [← hW7]; exact below_drewN' (Below.refl _ _) nq
  replace L_a := hid (L_a.out.below B7)
  replace L_b := hid (L_b.out.below B7)
  replace HCx := hid (HCx.out.later B7)
  replace HCy := hid (HCy.out.later B7)
  clear B7 hW7
  go_wp2_with fail
  refine (awake_c _).mono ?_
  rintro e W8 ⟨rfl, A8⟩
  have B8 : Below W7.heap.size W7 W8 := A8
  replace L_a := hid (L_a.out.below B8)
  replace L_b := hid (L_b.out.below B8)
  replace HCx := hid (HCx.out.later B8)
  replace HCy := hid (HCy.out.later B8)
  clear B8
  clear A8
  go_wp2
  go_ret
  exact ⟨rfl, HCx.out.below⟩
end Go.Proofs.YtgjkfegdnemjfaaDoor
