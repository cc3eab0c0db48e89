/-
  NatShifts' walk: it returns true and writes nothing that was there.
-/
import Derived.Test.YtgjkfegdnemjfaaDoorRefShift
import Derived.Test.YtgjkfegdnemjfaaDoorCopyTouch
namespace Go.Proofs.YtgjkfegdnemjfaaDoor
open Go.RowKit Nt
set_option linter.unusedSimpArgs false
set_option linter.unusedVariables false

set_option maxHeartbeats 8000000 in
theorem shifts_walk (w : World) (p0 : Option Addr) (n0 c0 : Nat) (xs0 : List Nat) (x1 : Int) (h0 : Sl w p0 n0 c0 xs0) (b0 : c0 ≤ 35184372087808) (b1 : -9223372036854775808 ≤ x1 ∧ x1 ≤ 9223372036854775807) :
    Calls Tryd.prog 7 #[.slice p0 n0 c0, .int .i64 x1] w fun e w' => e = .returned (.bool true) ∧ Below w.heap.size w w' := by
  have hn0 : n0 ≤ 35184372087808 := Nat.le_trans h0.cap b0
  have H1 : Hid (∀ (W : World) (p : Option Addr) (c : Nat), Sl W p n0 c xs0 → Calls Tryd.prog 27 #[.slice p n0 c, .int .i64 x1] W fun e w' => ∃ r cr, e = .returned (.tuple #[.slice r (digs (shlV (val xs0) x1)).length cr, .int .i64 (shlE (val xs0) x1)]) ∧ Sl w' r (digs (shlV (val xs0) x1)).length cr (digs (shlV (val xs0) x1)) ∧ Below W.heap.size W w') := fun W p c hW => shl_c W p n0 c xs0 x1 hW (by omega) b1.1 b1.2
  have H2 : Hid (∀ (W : World) (p : Option Addr) (c : Nat), Sl W p n0 c xs0 → Calls Tryd.prog 28 #[.slice p n0 c, .int .i64 x1] W fun e w' => ∃ r cr, e = .returned (.tuple #[.slice r (digs (shrV (val xs0) x1)).length cr, .int .i64 (shrE x1)]) ∧ Sl w' r (digs (shrV (val xs0) x1)).length cr (digs (shrV (val xs0) x1)) ∧ Below W.heap.size W w') := fun W p c hW => shr_c W p n0 c xs0 x1 hW (by omega) b1.1 b1.2
  have H3 : Hid (∀ (W : World), Sl W p0 n0 c0 xs0 → Calls Tryd.prog 29 #[.slice p0 n0 c0, .int .i64 x1] W fun e w' => ∃ r cr, e = .returned (.tuple #[.slice r (digs (shlV (val xs0) x1)).length cr, .int .i64 (shlE (val xs0) x1)]) ∧ Sl w' r (digs (shlV (val xs0) x1)).length cr (digs (shlV (val xs0) x1)) ∧ Below W.heap.size W w') := fun W hW => rshl_c W p0 n0 c0 xs0 x1 hW (by omega) b1.1 b1.2
  have H4 : Hid (∀ (W : World), Sl W p0 n0 c0 xs0 → Calls Tryd.prog 30 #[.slice p0 n0 c0, .int .i64 x1] W fun e w' => ∃ r cr, e = .returned (.tuple #[.slice r (digs (shrV (val xs0) x1)).length cr, .int .i64 (shrE x1)]) ∧ Sl w' r (digs (shrV (val xs0) x1)).length cr (digs (shrV (val xs0) x1)) ∧ Below W.heap.size W w') := fun W hW => rshr_c W p0 n0 c0 xs0 x1 hW (by omega) b1.1 b1.2
  have L0 := hid h0
  have L_a := hid h0
  clear h0 b1
  generalize shlV (val xs0) x1 = V1 at *
  generalize shlE (val xs0) x1 = E1 at *
  generalize shrV (val xs0) x1 = V2 at *
  generalize shrE x1 = E2 at *
  go_enter Tryd.func7, Tryd.ntmps7
  go_wp2_with fail
  refine (copied_c _ p0 n0 c0 xs0 L_a.out b0).mono ?_
  rintro e W1 ⟨gx, crx, rfl, C1⟩
  have B1 : Below w.heap.size w W1 := C1.below
  replace L_a := hid (L_a.out.below B1)
  have HCx := hid (C1)
  clear B1
  clear C1
  have S_x := hid (HCx.out.sl L0.out.ok L0.out.len)
  go_wp2_with fail
  refine (H1.out _ _ crx S_x.out).mono ?_
  rintro e W2 ⟨r2, k2, rfl, s2, t2⟩
  have B2 : Below W1.heap.size W1 W2 := t2
  replace L_a := hid (L_a.out.below B2)
  replace HCx := hid (HCx.out.later B2)
  replace S_x := hid (S_x.out.below B2)
  have L_l := hid (s2)
  clear B2
  clear s2 t2
  go_wp2_with fail
  refine (H2.out _ _ crx S_x.out).mono ?_
  rintro e W3 ⟨r3, k3, rfl, s3, t3⟩
  have B3 : Below W2.heap.size W2 W3 := t3
  replace L_a := hid (L_a.out.below B3)
  replace HCx := hid (HCx.out.later B3)
  replace S_x := hid (S_x.out.below B3)
  replace L_l := hid (L_l.out.below B3)
  have L_r := hid (s3)
  clear B3
  clear s3 t3
  clear S_x
  go_wp2_with fail
  refine (H3.out _ L_a.out).mono ?_
  rintro e W4 ⟨r4, k4, rfl, s4, t4⟩
  have B4 : Below W3.heap.size W3 W4 := t4
  replace L_a := hid (L_a.out.below B4)
  replace HCx := hid (HCx.out.later B4)
  replace L_l := hid (L_l.out.below B4)
  replace L_r := hid (L_r.out.below B4)
  have L_u := hid (s4)
  clear B4
  clear s4 t4
  go_wp2_with fail
  refine (H4.out _ L_a.out).mono ?_
  rintro e W5 ⟨r5, k5, rfl, s5, t5⟩
  have B5 : Below W4.heap.size W4 W5 := t5
  replace L_a := hid (L_a.out.below B5)
  replace HCx := hid (HCx.out.later B5)
  replace L_l := hid (L_l.out.below B5)
  replace L_r := hid (L_r.out.below B5)
  replace L_u := hid (L_u.out.below B5)
  have L_v := hid (s5)
  clear B5
  clear s5 t5
  go_wp2_with fail
  refine (same_c _ r2 r4 _ _ _ _ _ L_l.out L_u.out).mono ?_
  rintro e wq ⟨rfl, nq, rfl⟩
  generalize hW6 : World.drewN W5 nq = W6
  have B6 : Below W5.heap.size W5 W6 := by rw [← hW6]; exact below_drewN' (Below.refl _ _) nq
  replace L_a := hid (L_a.out.below B6)
  replace HCx := hid (HCx.out.later B6)
  replace L_l := hid (L_l.out.below B6)
  replace L_r := hid (L_r.out.below B6)
  replace L_u := hid (L_u.out.below B6)
  replace L_v := hid (L_v.out.below B6)
  clear B6 hW6
  clear L_l L_u
  go_wp2_with fail
  refine (same_c _ r3 r5 _ _ _ _ _ L_r.out L_v.out).mono ?_
  rintro e wq ⟨rfl, nq, rfl⟩
  generalize hW7 : World.drewN W6 nq = W7
  have B7 : Below W6.heap.size W6 W7 := by rw [← hW7]; exact below_drewN' (Below.refl _ _) nq
  replace L_a := hid (L_a.out.below B7)
  replace HCx := hid (HCx.out.later B7)
  replace L_r := hid (L_r.out.below B7)
  replace L_v := hid (L_v.out.below B7)
  clear B7 hW7
  clear L_r L_v
  go_wp2_with fail
  refine (kept_c w _ gx n0 crx xs0 p0 c0 HCx.out L_a.out b0).mono ?_
  rintro e wq ⟨rfl, nq, rfl⟩
  generalize hW8 : World.drewN W7 nq = W8
  have B8 : Below W7.heap.size W7 W8 := by rw [← hW8]; exact below_drewN' (Below.refl _ _) nq
  replace L_a := hid (L_a.out.below B8)
  replace HCx := hid (HCx.out.later B8)
  clear B8 hW8
  go_wp2_with fail
  refine (awake_c _).mono ?_
  rintro e W9 ⟨rfl, A9⟩
  have B9 : Below W8.heap.size W8 W9 := A9
  replace L_a := hid (L_a.out.below B9)
  replace HCx := hid (HCx.out.later B9)
  clear B9
  clear A9
  go_wp2
  go_ret
  exact ⟨rfl, HCx.out.below⟩
end Go.Proofs.YtgjkfegdnemjfaaDoor
