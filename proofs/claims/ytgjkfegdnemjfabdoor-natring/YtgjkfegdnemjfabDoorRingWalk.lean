/-
  NatRing's walk: it returns true and writes nothing that was there.
-/
import Derived.Test.YtgjkfegdnemjfabDoorCalc
namespace Go.Proofs.YtgjkfegdnemjfabDoor
open Go.RowKit Nt
set_option linter.unusedSimpArgs false
set_option linter.unusedVariables false

set_option maxHeartbeats 8000000 in
theorem ring_walk (w : World) (p0 : Option Addr) (n0 c0 : Nat) (xs0 : List Nat) (p1 : Option Addr) (n1 c1 : Nat) (xs1 : List Nat) (p2 : Option Addr) (n2 c2 : Nat) (xs2 : List Nat) (h0 : Sl w p0 n0 c0 xs0) (h1 : Sl w p1 n1 c1 xs1) (h2 : Sl w p2 n2 c2 xs2)
    (b0 : c0 ≤ 35184372087808) (b1 : c1 ≤ 35184372087808) (b2 : c2 ≤ 35184372087808) :
    Calls Tryd.prog 5 #[.slice p0 n0 c0, .slice p1 n1 c1, .slice p2 n2 c2] w fun e w' => e = .returned (.bool true) ∧ Below w.heap.size w w' := by
  have Z_a : Hid (n0 ≤ 35184372087808) := Nat.le_trans h0.cap b0
  have Z_b : Hid (n1 ≤ 35184372087808) := Nat.le_trans h1.cap b1
  have Z_c : Hid (n2 ≤ 35184372087808) := Nat.le_trans h2.cap b2
  have L_a := hid h0
  have L_b := hid h1
  have L_c := hid h2
  have HB := hid (Below.refl w.heap.size w)
  clear h0 h1 h2 b0 b1 b2
  go_enter Tryd.func5, Tryd.ntmps5
  go_wp2_with fail
  refine (awake_c _).mono ?_
  rintro e W1 ⟨rfl, A1⟩
  have B1 := A1
  replace HB := hid (HB.out.trans (B1.mono HB.out.size))
  replace L_a := hid (L_a.out.below B1)
  replace L_b := hid (L_b.out.below B1)
  replace L_c := hid (L_c.out.below B1)
  clear B1
  clear A1
  go_wp2_with fail
  refine (add_n _ p0 p1 n0 c0 n1 c1 (val xs0) (val xs1) (L_a.out.num) (L_b.out.num) 35184372087808 (by have := Z_a.out; omega) (by have := Z_b.out; omega) (by omega)).mono ?_
  rintro e W2 ⟨r2, cr2, rfl, R2, Zr2⟩
  have B2 := R2.below
  replace HB := hid (HB.out.trans (B2.mono HB.out.size))
  replace L_a := hid (L_a.out.below B2)
  replace L_b := hid (L_b.out.below B2)
  replace L_c := hid (L_c.out.below B2)
  clear B2
  have L_s1 := hid R2.sl
  have Z_s1 := hid Zr2
  clear R2 Zr2
  go_wp2_with fail
  refine (add_n _ p1 p0 n1 c1 n0 c0 (val xs1) (val xs0) (L_b.out.num) (L_a.out.num) 35184372087808 (by have := Z_b.out; omega) (by have := Z_a.out; omega) (by omega)).mono ?_
  rintro e W3 ⟨r3, cr3, rfl, R3, Zr3⟩
  have B3 := R3.below
  replace HB := hid (HB.out.trans (B3.mono HB.out.size))
  replace L_a := hid (L_a.out.below B3)
  replace L_b := hid (L_b.out.below B3)
  replace L_c := hid (L_c.out.below B3)
  replace L_s1 := hid (L_s1.out.below B3)
  clear B3
  have L_s2 := hid R3.sl
  have Z_s2 := hid Zr3
  clear R3 Zr3
  go_wp2_with fail
  refine (same_n _ r2 r3 (digs ((val xs0) + (val xs1))).length cr2 (digs ((val xs1) + (val xs0))).length cr3 ((val xs0) + (val xs1)) ((val xs1) + (val xs0)) L_s1.out L_s2.out (Nat.add_comm _ _)).mono ?_
  rintro e w4 ⟨rfl, nq, rfl⟩
  generalize hW4 : World.drewN W3 nq = W4
  have B4 := (show Below (World.heap W3).size W3 W4 from by rw [← hW4]; exact below_drewN' (Below.refl _ _) nq)
  replace HB := hid (HB.out.trans (B4.mono HB.out.size))
  replace L_a := hid (L_a.out.below B4)
  replace L_b := hid (L_b.out.below B4)
  replace L_c := hid (L_c.out.below B4)
  replace L_s1 := hid (L_s1.out.below B4)
  replace L_s2 := hid (L_s2.out.below B4)
  clear B4
  clear hW4
  clear L_s1 Z_s1
  clear L_s2 Z_s2
  go_wp2_with fail
  refine (add_n _ p0 p1 n0 c0 n1 c1 (val xs0) (val xs1) (L_a.out.num) (L_b.out.num) 35184372087808 (by have := Z_a.out; omega) (by have := Z_b.out; omega) (by omega)).mono ?_
  rintro e W5 ⟨r5, cr5, rfl, R5, Zr5⟩
  have B5 := R5.below
  replace HB := hid (HB.out.trans (B5.mono HB.out.size))
  replace L_a := hid (L_a.out.below B5)
  replace L_b := hid (L_b.out.below B5)
  replace L_c := hid (L_c.out.below B5)
  clear B5
  have L_s3 := hid R5.sl
  have Z_s3 := hid Zr5
  clear R5 Zr5
  go_wp2_with fail
  refine (add_n _ r5 p2 (digs ((val xs0) + (val xs1))).length cr5 n2 c2 ((val xs0) + (val xs1)) (val xs2) (L_s3.out.numd) (L_c.out.num) 35184372087809 (by have := Z_s3.out; omega) (by have := Z_c.out; omega) (by omega)).mono ?_
  rintro e W6 ⟨r6, cr6, rfl, R6, Zr6⟩
  have B6 := R6.below
  replace HB := hid (HB.out.trans (B6.mono HB.out.size))
  replace L_a := hid (L_a.out.below B6)
  replace L_b := hid (L_b.out.below B6)
  replace L_c := hid (L_c.out.below B6)
  replace L_s3 := hid (L_s3.out.below B6)
  clear B6
  have L_s4 := hid R6.sl
  have Z_s4 := hid Zr6
  clear R6 Zr6
  go_wp2_with fail
  refine (add_n _ p1 p2 n1 c1 n2 c2 (val xs1) (val xs2) (L_b.out.num) (L_c.out.num) 35184372087808 (by have := Z_b.out; omega) (by have := Z_c.out; omega) (by omega)).mono ?_
  rintro e W7 ⟨r7, cr7, rfl, R7, Zr7⟩
  have B7 := R7.below
  replace HB := hid (HB.out.trans (B7.mono HB.out.size))
  replace L_a := hid (L_a.out.below B7)
  replace L_b := hid (L_b.out.below B7)
  replace L_c := hid (L_c.out.below B7)
  replace L_s3 := hid (L_s3.out.below B7)
  replace L_s4 := hid (L_s4.out.below B7)
  clear B7
  have L_s5 := hid R7.sl
  have Z_s5 := hid Zr7
  clear R7 Zr7
  go_wp2_with fail
  refine (add_n _ p0 r7 n0 c0 (digs ((val xs1) + (val xs2))).length cr7 (val xs0) ((val xs1) + (val xs2)) (L_a.out.num) (L_s5.out.numd) 35184372087809 (by have := Z_a.out; omega) (by have := Z_s5.out; omega) (by omega)).mono ?_
  rintro e W8 ⟨r8, cr8, rfl, R8, Zr8⟩
  have B8 := R8.below
  replace HB := hid (HB.out.trans (B8.mono HB.out.size))
  replace L_a := hid (L_a.out.below B8)
  replace L_b := hid (L_b.out.below B8)
  replace L_c := hid (L_c.out.below B8)
  replace L_s3 := hid (L_s3.out.below B8)
  replace L_s4 := hid (L_s4.out.below B8)
  replace L_s5 := hid (L_s5.out.below B8)
  clear B8
  have L_s6 := hid R8.sl
  have Z_s6 := hid Zr8
  clear R8 Zr8
  go_wp2_with fail
  refine (same_n _ r6 r8 (digs (((val xs0) + (val xs1)) + (val xs2))).length cr6 (digs ((val xs0) + ((val xs1) + (val xs2)))).length cr8 (((val xs0) + (val xs1)) + (val xs2)) ((val xs0) + ((val xs1) + (val xs2))) L_s4.out L_s6.out (Nat.add_assoc _ _ _)).mono ?_
  rintro e w9 ⟨rfl, nq, rfl⟩
  generalize hW9 : World.drewN W8 nq = W9
  have B9 := (show Below (World.heap W8).size W8 W9 from by rw [← hW9]; exact below_drewN' (Below.refl _ _) nq)
  replace HB := hid (HB.out.trans (B9.mono HB.out.size))
  replace L_a := hid (L_a.out.below B9)
  replace L_b := hid (L_b.out.below B9)
  replace L_c := hid (L_c.out.below B9)
  replace L_s3 := hid (L_s3.out.below B9)
  replace L_s4 := hid (L_s4.out.below B9)
  replace L_s5 := hid (L_s5.out.below B9)
  replace L_s6 := hid (L_s6.out.below B9)
  clear B9
  clear hW9
  clear L_s3 Z_s3
  clear L_s4 Z_s4
  clear L_s5 Z_s5
  clear L_s6 Z_s6
  go_wp2_with fail
  refine (mul_n _ p0 p1 n0 c0 n1 c1 (val xs0) (val xs1) (L_a.out.num) (L_b.out.num) 70368744175616 (by have := Z_a.out; have := Z_b.out; omega) (by omega)).mono ?_
  rintro e W10 ⟨r10, cr10, rfl, R10, Zr10⟩
  have B10 := R10.below
  replace HB := hid (HB.out.trans (B10.mono HB.out.size))
  replace L_a := hid (L_a.out.below B10)
  replace L_b := hid (L_b.out.below B10)
  replace L_c := hid (L_c.out.below B10)
  clear B10
  have L_m1 := hid R10.sl
  have Z_m1 := hid Zr10
  clear R10 Zr10
  go_wp2_with fail
  refine (mul_n _ p1 p0 n1 c1 n0 c0 (val xs1) (val xs0) (L_b.out.num) (L_a.out.num) 70368744175616 (by have := Z_b.out; have := Z_a.out; omega) (by omega)).mono ?_
  rintro e W11 ⟨r11, cr11, rfl, R11, Zr11⟩
  have B11 := R11.below
  replace HB := hid (HB.out.trans (B11.mono HB.out.size))
  replace L_a := hid (L_a.out.below B11)
  replace L_b := hid (L_b.out.below B11)
  replace L_c := hid (L_c.out.below B11)
  replace L_m1 := hid (L_m1.out.below B11)
  clear B11
  have L_m2 := hid R11.sl
  have Z_m2 := hid Zr11
  clear R11 Zr11
  go_wp2_with fail
  refine (same_n _ r10 r11 (digs ((val xs0) * (val xs1))).length cr10 (digs ((val xs1) * (val xs0))).length cr11 ((val xs0) * (val xs1)) ((val xs1) * (val xs0)) L_m1.out L_m2.out (Nat.mul_comm _ _)).mono ?_
  rintro e w12 ⟨rfl, nq, rfl⟩
  generalize hW12 : World.drewN W11 nq = W12
  have B12 := (show Below (World.heap W11).size W11 W12 from by rw [← hW12]; exact below_drewN' (Below.refl _ _) nq)
  replace HB := hid (HB.out.trans (B12.mono HB.out.size))
  replace L_a := hid (L_a.out.below B12)
  replace L_b := hid (L_b.out.below B12)
  replace L_c := hid (L_c.out.below B12)
  replace L_m1 := hid (L_m1.out.below B12)
  replace L_m2 := hid (L_m2.out.below B12)
  clear B12
  clear hW12
  clear L_m1 Z_m1
  clear L_m2 Z_m2
  go_wp2_with fail
  refine (add_n _ p1 p2 n1 c1 n2 c2 (val xs1) (val xs2) (L_b.out.num) (L_c.out.num) 35184372087808 (by have := Z_b.out; omega) (by have := Z_c.out; omega) (by omega)).mono ?_
  rintro e W13 ⟨r13, cr13, rfl, R13, Zr13⟩
  have B13 := R13.below
  replace HB := hid (HB.out.trans (B13.mono HB.out.size))
  replace L_a := hid (L_a.out.below B13)
  replace L_b := hid (L_b.out.below B13)
  replace L_c := hid (L_c.out.below B13)
  clear B13
  have L_t1 := hid R13.sl
  have Z_t1 := hid Zr13
  clear R13 Zr13
  go_wp2_with fail
  refine (mul_n _ p0 r13 n0 c0 (digs ((val xs1) + (val xs2))).length cr13 (val xs0) ((val xs1) + (val xs2)) (L_a.out.num) (L_t1.out.numd) 70368744175617 (by have := Z_a.out; have := Z_t1.out; omega) (by omega)).mono ?_
  rintro e W14 ⟨r14, cr14, rfl, R14, Zr14⟩
  have B14 := R14.below
  replace HB := hid (HB.out.trans (B14.mono HB.out.size))
  replace L_a := hid (L_a.out.below B14)
  replace L_b := hid (L_b.out.below B14)
  replace L_c := hid (L_c.out.below B14)
  replace L_t1 := hid (L_t1.out.below B14)
  clear B14
  have L_t2 := hid R14.sl
  have Z_t2 := hid Zr14
  clear R14 Zr14
  go_wp2_with fail
  refine (mul_n _ p0 p1 n0 c0 n1 c1 (val xs0) (val xs1) (L_a.out.num) (L_b.out.num) 70368744175616 (by have := Z_a.out; have := Z_b.out; omega) (by omega)).mono ?_
  rintro e W15 ⟨r15, cr15, rfl, R15, Zr15⟩
  have B15 := R15.below
  replace HB := hid (HB.out.trans (B15.mono HB.out.size))
  replace L_a := hid (L_a.out.below B15)
  replace L_b := hid (L_b.out.below B15)
  replace L_c := hid (L_c.out.below B15)
  replace L_t1 := hid (L_t1.out.below B15)
  replace L_t2 := hid (L_t2.out.below B15)
  clear B15
  have L_t3 := hid R15.sl
  have Z_t3 := hid Zr15
  clear R15 Zr15
  go_wp2_with fail
  refine (mul_n _ p0 p2 n0 c0 n2 c2 (val xs0) (val xs2) (L_a.out.num) (L_c.out.num) 70368744175616 (by have := Z_a.out; have := Z_c.out; omega) (by omega)).mono ?_
  rintro e W16 ⟨r16, cr16, rfl, R16, Zr16⟩
  have B16 := R16.below
  replace HB := hid (HB.out.trans (B16.mono HB.out.size))
  replace L_a := hid (L_a.out.below B16)
  replace L_b := hid (L_b.out.below B16)
  replace L_c := hid (L_c.out.below B16)
  replace L_t1 := hid (L_t1.out.below B16)
  replace L_t2 := hid (L_t2.out.below B16)
  replace L_t3 := hid (L_t3.out.below B16)
  clear B16
  have L_t4 := hid R16.sl
  have Z_t4 := hid Zr16
  clear R16 Zr16
  go_wp2_with fail
  refine (add_n _ r15 r16 (digs ((val xs0) * (val xs1))).length cr15 (digs ((val xs0) * (val xs2))).length cr16 ((val xs0) * (val xs1)) ((val xs0) * (val xs2)) (L_t3.out.numd) (L_t4.out.numd) 70368744175616 (by have := Z_t3.out; omega) (by have := Z_t4.out; omega) (by omega)).mono ?_
  rintro e W17 ⟨r17, cr17, rfl, R17, Zr17⟩
  have B17 := R17.below
  replace HB := hid (HB.out.trans (B17.mono HB.out.size))
  replace L_a := hid (L_a.out.below B17)
  replace L_b := hid (L_b.out.below B17)
  replace L_c := hid (L_c.out.below B17)
  replace L_t1 := hid (L_t1.out.below B17)
  replace L_t2 := hid (L_t2.out.below B17)
  replace L_t3 := hid (L_t3.out.below B17)
  replace L_t4 := hid (L_t4.out.below B17)
  clear B17
  have L_t5 := hid R17.sl
  have Z_t5 := hid Zr17
  clear R17 Zr17
  go_wp2_with fail
  refine (same_n _ r14 r17 (digs ((val xs0) * ((val xs1) + (val xs2)))).length cr14 (digs (((val xs0) * (val xs1)) + ((val xs0) * (val xs2)))).length cr17 ((val xs0) * ((val xs1) + (val xs2))) (((val xs0) * (val xs1)) + ((val xs0) * (val xs2))) L_t2.out L_t5.out (Nat.mul_add _ _ _)).mono ?_
  rintro e w18 ⟨rfl, nq, rfl⟩
  generalize hW18 : World.drewN W17 nq = W18
  have B18 := (show Below (World.heap W17).size W17 W18 from by rw [← hW18]; exact below_drewN' (Below.refl _ _) nq)
  replace HB := hid (HB.out.trans (B18.mono HB.out.size))
  replace L_a := hid (L_a.out.below B18)
  replace L_b := hid (L_b.out.below B18)
  replace L_c := hid (L_c.out.below B18)
  replace L_t1 := hid (L_t1.out.below B18)
  replace L_t2 := hid (L_t2.out.below B18)
  replace L_t3 := hid (L_t3.out.below B18)
  replace L_t4 := hid (L_t4.out.below B18)
  replace L_t5 := hid (L_t5.out.below B18)
  clear B18
  clear hW18
  clear L_t1 Z_t1
  clear L_t2 Z_t2
  clear L_t3 Z_t3
  clear L_t4 Z_t4
  clear L_t5 Z_t5
  go_wp2_with fail
  refine (add_n _ p0 p1 n0 c0 n1 c1 (val xs0) (val xs1) (L_a.out.num) (L_b.out.num) 35184372087808 (by have := Z_a.out; omega) (by have := Z_b.out; omega) (by omega)).mono ?_
  rintro e W19 ⟨r19, cr19, rfl, R19, Zr19⟩
  have B19 := R19.below
  replace HB := hid (HB.out.trans (B19.mono HB.out.size))
  replace L_a := hid (L_a.out.below B19)
  replace L_b := hid (L_b.out.below B19)
  replace L_c := hid (L_c.out.below B19)
  clear B19
  have L_u1 := hid R19.sl
  have Z_u1 := hid Zr19
  clear R19 Zr19
  go_wp2_with fail
  refine (sub_n _ r19 p1 (digs ((val xs0) + (val xs1))).length cr19 n1 c1 ((val xs0) + (val xs1)) (val xs1) (L_u1.out.numd) (L_b.out.num) (Nat.le_add_left _ _) 35184372087809 (by have := Z_u1.out; omega) (by omega)).mono ?_
  rintro e W20 ⟨r20, cr20, rfl, R20, Zr20⟩
  rw [Nat.add_sub_cancel] at R20 Zr20 ⊢
  have B20 := R20.below
  replace HB := hid (HB.out.trans (B20.mono HB.out.size))
  replace L_a := hid (L_a.out.below B20)
  replace L_b := hid (L_b.out.below B20)
  replace L_c := hid (L_c.out.below B20)
  replace L_u1 := hid (L_u1.out.below B20)
  clear B20
  have L_d := hid R20.sl
  have Z_d := hid Zr20
  clear R20 Zr20
  go_wp2_with fail
  refine (norm_n _ p0 n0 c0 (val xs0) (L_a.out.num) 35184372087808 (by have := Z_a.out; omega) (by omega)).mono ?_
  rintro e W21 ⟨r21, cr21, rfl, R21, Zr21⟩
  have B21 := R21.below
  replace HB := hid (HB.out.trans (B21.mono HB.out.size))
  replace L_a := hid (L_a.out.below B21)
  replace L_b := hid (L_b.out.below B21)
  replace L_c := hid (L_c.out.below B21)
  replace L_u1 := hid (L_u1.out.below B21)
  replace L_d := hid (L_d.out.below B21)
  clear B21
  have L_na := hid R21.sl
  have Z_na := hid Zr21
  clear R21 Zr21
  go_wp2_with fail
  refine (same_n _ r20 r21 (digs (val xs0)).length cr20 (digs (val xs0)).length cr21 (val xs0) (val xs0) L_d.out L_na.out (rfl)).mono ?_
  rintro e w22 ⟨rfl, nq, rfl⟩
  generalize hW22 : World.drewN W21 nq = W22
  have B22 := (show Below (World.heap W21).size W21 W22 from by rw [← hW22]; exact below_drewN' (Below.refl _ _) nq)
  replace HB := hid (HB.out.trans (B22.mono HB.out.size))
  replace L_a := hid (L_a.out.below B22)
  replace L_b := hid (L_b.out.below B22)
  replace L_c := hid (L_c.out.below B22)
  replace L_u1 := hid (L_u1.out.below B22)
  replace L_d := hid (L_d.out.below B22)
  replace L_na := hid (L_na.out.below B22)
  clear B22
  clear hW22
  clear L_u1 Z_u1
  clear L_d Z_d
  clear L_na Z_na
  clear L_b Z_b
  clear L_c Z_c
  have hone : Sl (W22.alloc (.cells #[.int .u32 1] 40)) (some ⟨W22.heap.size, 0, none⟩) 1 1 [1] := sl_one (blk_one (z := 1) rfl (heap_alloc_last _ _)) (by omega)
  have ha1 : Below W22.heap.size W22 (W22.alloc (.cells #[.int .u32 1] 40)) := (Below.refl _ _).alloc (Nat.le_refl _) _
  have HONE := hid hone
  have HA1 := hid ha1
  clear hone ha1
  go_wp2_with fail
  refine (mul_n _ p0 (some ⟨W22.heap.size, 0, none⟩) n0 c0 1 1 (val xs0) (val [1]) (L_a.out.below HA1.out).num HONE.out.num 35184372087809 (by have := Z_a.out; omega) (by omega)).mono ?_
  rintro e Wm ⟨rm, crm, rfl, Rm, Zm⟩
  have Rm2 := hid (Rm.since (HA1.out))
  have L_m := hid Rm.sl
  have Z_m := hid Zm
  replace L_a := hid (L_a.out.below Rm2.out.below)
  replace HB := hid (HB.out.trans (Rm2.out.below.mono HB.out.size))
  clear Rm Zm Rm2 HONE HA1
  go_wp2_with fail
  refine (norm_n _ p0 n0 c0 (val xs0) (L_a.out.num) 35184372087808 (by have := Z_a.out; omega) (by omega)).mono ?_
  rintro e W23 ⟨r23, cr23, rfl, R23, Zr23⟩
  have B23 := R23.below
  replace HB := hid (HB.out.trans (B23.mono HB.out.size))
  replace L_a := hid (L_a.out.below B23)
  replace L_m := hid (L_m.out.below B23)
  clear B23
  have L_nb := hid R23.sl
  have Z_nb := hid Zr23
  clear R23 Zr23
  go_wp2_with fail
  refine (same_n _ rm r23 (digs (val xs0 * val [1])).length crm (digs (val xs0)).length cr23 (val xs0 * val [1]) (val xs0) L_m.out L_nb.out (by simp [val])).mono ?_
  rintro e w24 ⟨rfl, nq, rfl⟩
  generalize hW24 : World.drewN W23 nq = W24
  have B24 := (show Below (World.heap W23).size W23 W24 from by rw [← hW24]; exact below_drewN' (Below.refl _ _) nq)
  replace HB := hid (HB.out.trans (B24.mono HB.out.size))
  replace L_a := hid (L_a.out.below B24)
  replace L_m := hid (L_m.out.below B24)
  replace L_nb := hid (L_nb.out.below B24)
  clear B24
  clear hW24
  go_wp2
  go_ret
  exact ⟨rfl, HB.out⟩
end Go.Proofs.YtgjkfegdnemjfabDoor
