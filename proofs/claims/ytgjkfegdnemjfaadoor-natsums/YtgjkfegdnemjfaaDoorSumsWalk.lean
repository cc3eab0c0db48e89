/-
  NatSums' walk: it returns true and writes nothing that was there.
-/
import Derived.Test.YtgjkfegdnemjfaaDoorRefC
import Derived.Test.YtgjkfegdnemjfaaDoorCopyTouch
import Derived.Test.YtgjkfegdnemjfaaDoorCalc
namespace Go.Proofs.YtgjkfegdnemjfaaDoor
open Go.RowKit Nt
set_option linter.unusedSimpArgs false
set_option linter.unusedVariables false

set_option maxHeartbeats 8000000 in
theorem sums_ok (w : World) (p0 : Option Addr) (n0 c0 : Nat) (xs0 : List Nat) (p1 : Option Addr) (n1 c1 : Nat) (xs1 : List Nat) (h0 : Sl w p0 n0 c0 xs0) (h1 : Sl w p1 n1 c1 xs1)
    (b0 : c0 ≤ 35184372087808) (b1 : c1 ≤ 35184372087808) (hcmp : val xs1 ≤ val xs0) :
    Calls Tryd.prog 4 #[.slice p0 n0 c0, .slice p1 n1 c1] w fun e w' => e = .returned (.bool true) ∧ Below w.heap.size w w' := by
  have hn0 : n0 ≤ 35184372087808 := Nat.le_trans h0.cap b0
  have hn1 : n1 ≤ 35184372087808 := Nat.le_trans h1.cap b1
  have L0 := hid h0
  have L1 := hid h1
  have L_a := hid h0
  have L_b := hid h1
  have HCMP := hid hcmp
  clear h0 h1 hcmp
  go_enter Tryd.func4, Tryd.ntmps4
  go_wp2_with fail
  refine (copied_c _ p0 n0 c0 xs0 L_a.out b0).mono ?_
  rintro e W1 ⟨gx, crx, rfl, C1⟩
  have B1 : Below w.heap.size w W1 := C1.below
  replace L_a := hid (L_a.out.below B1)
  replace L_b := hid (L_b.out.below B1)
  have HCx := hid (C1)
  clear B1
  have hgx : gx < W1.heap.size := Copy.lt C1
  have z01 : w.heap.size ≤ W1.heap.size := C1.below.size
  clear C1
  go_wp2_with fail
  refine (copied_c _ p1 n1 c1 xs1 L_b.out b1).mono ?_
  rintro e W2 ⟨gy, cry, rfl, C2⟩
  have B2 : Below W1.heap.size W1 W2 := C2.below
  replace L_a := hid (L_a.out.below B2)
  replace L_b := hid (L_b.out.below B2)
  replace HCx := hid (HCx.out.later B2)
  have HCy := hid (C2)
  clear B2
  have hgy : gy < W2.heap.size := Copy.lt C2
  have z12 : W1.heap.size ≤ W2.heap.size := C2.below.size
  clear C2
  have S_x := hid (HCx.out.sl L0.out.ok L0.out.len)
  have S_y := hid (HCy.out.sl L1.out.ok L1.out.len)
  go_wp2_with fail
  refine (add_c _ _ _ n0 crx n1 cry xs0 xs1 S_x.out S_y.out (by omega) (by omega)).mono ?_
  rintro e W3 ⟨rs, cs, rfl, R3⟩
  have B3 : Below W2.heap.size W2 W3 := R3.below
  replace L_a := hid (L_a.out.below B3)
  replace L_b := hid (L_b.out.below B3)
  replace HCx := hid (HCx.out.later B3)
  replace HCy := hid (HCy.out.later B3)
  replace S_x := hid (S_x.out.below B3)
  replace S_y := hid (S_y.out.below B3)
  have R_s := hid (R3)
  clear B3
  have SP_s := hid R3.span
  have z23 : W2.heap.size ≤ W3.heap.size := R3.below.size
  clear R3
  go_wp2_with fail
  refine (sub_c _ _ _ n0 crx n1 cry xs0 xs1 S_x.out S_y.out (by omega) HCMP.out).mono ?_
  rintro e W4 ⟨rd, cd, rfl, R4⟩
  have B4 : Below W3.heap.size W3 W4 := R4.below
  replace L_a := hid (L_a.out.below B4)
  replace L_b := hid (L_b.out.below B4)
  replace HCx := hid (HCx.out.later B4)
  replace HCy := hid (HCy.out.later B4)
  replace S_x := hid (S_x.out.below B4)
  replace S_y := hid (S_y.out.below B4)
  replace R_s := hid (R_s.out.later B4)
  have R_d := hid (R4)
  clear B4
  have SP_d := hid R4.span
  have z34 : W3.heap.size ≤ W4.heap.size := R4.below.size
  clear R4
  have K := hid (Below.refl W4.heap.size W4)
  go_wp2_with fail
  refine (rsub_c _ p0 p1 n0 c0 n1 c1 xs0 xs1 L_a.out L_b.out (by omega) HCMP.out).mono ?_
  rintro e W5 ⟨rw, cw, rfl, A5⟩
  have B5 : Below W4.heap.size W4 W5 := A5.below
  replace L_a := hid (L_a.out.below B5)
  replace L_b := hid (L_b.out.below B5)
  replace HCx := hid (HCx.out.later B5)
  replace HCy := hid (HCy.out.later B5)
  replace S_x := hid (S_x.out.below B5)
  replace S_y := hid (S_y.out.below B5)
  replace R_s := hid (R_s.out.later B5)
  replace R_d := hid (R_d.out.later B5)
  replace K := hid (K.out.trans (B5.mono K.out.size))
  have L_w := hid (A5.sl)
  clear B5
  clear A5
  go_wp2_with fail
  refine (radd_c _ p0 p1 n0 c0 n1 c1 xs0 xs1 L_a.out L_b.out (by omega) (by omega)).mono ?_
  rintro e W6 ⟨rt, ct, rfl, A6⟩
  have B6 : Below W5.heap.size W5 W6 := A6.below
  replace L_a := hid (L_a.out.below B6)
  replace L_b := hid (L_b.out.below B6)
  replace HCx := hid (HCx.out.later B6)
  replace HCy := hid (HCy.out.later B6)
  replace S_x := hid (S_x.out.below B6)
  replace S_y := hid (S_y.out.below B6)
  replace R_s := hid (R_s.out.later B6)
  replace R_d := hid (R_d.out.later B6)
  replace K := hid (K.out.trans (B6.mono K.out.size))
  replace L_w := hid (L_w.out.below B6)
  have L_t := hid (A6.sl)
  clear B6
  clear A6
  go_wp2_with fail
  refine (same_c _ rs rt _ _ _ _ _ R_s.out.sl L_t.out).mono ?_
  rintro e wq ⟨rfl, nq, rfl⟩
  generalize hW7 : World.drewN W6 nq = W7
  have B7 : Below W6.heap.size W6 W7 := by rw [← hW7]; exact below_drewN' (Below.refl _ _) nq
  replace L_a := hid (L_a.out.below B7)
  replace L_b := hid (L_b.out.below B7)
  replace HCx := hid (HCx.out.later B7)
  replace HCy := hid (HCy.out.later B7)
  replace S_x := hid (S_x.out.below B7)
  replace S_y := hid (S_y.out.below B7)
  replace R_s := hid (R_s.out.later B7)
  replace R_d := hid (R_d.out.later B7)
  replace K := hid (K.out.trans (B7.mono K.out.size))
  replace L_w := hid (L_w.out.below B7)
  replace L_t := hid (L_t.out.below B7)
  clear B7 hW7
  clear L_t
  go_wp2_with fail
  refine (same_c _ rd rw _ _ _ _ _ R_d.out.sl L_w.out).mono ?_
  rintro e wq ⟨rfl, nq, rfl⟩
  generalize hW8 : World.drewN W7 nq = W8
  have B8 : Below W7.heap.size W7 W8 := by rw [← hW8]; exact below_drewN' (Below.refl _ _) nq
  replace L_a := hid (L_a.out.below B8)
  replace L_b := hid (L_b.out.below B8)
  replace HCx := hid (HCx.out.later B8)
  replace HCy := hid (HCy.out.later B8)
  replace S_x := hid (S_x.out.below B8)
  replace S_y := hid (S_y.out.below B8)
  replace R_s := hid (R_s.out.later B8)
  replace R_d := hid (R_d.out.later B8)
  replace K := hid (K.out.trans (B8.mono K.out.size))
  replace L_w := hid (L_w.out.below B8)
  clear B8 hW8
  clear L_w
  clear S_x S_y
  go_wp2_with fail
  refine (awake_c _).mono ?_
  rintro e W9 ⟨rfl, A9⟩
  have B9 : Below W8.heap.size W8 W9 := A9
  replace L_a := hid (L_a.out.below B9)
  replace L_b := hid (L_b.out.below B9)
  replace HCx := hid (HCx.out.later B9)
  replace HCy := hid (HCy.out.later B9)
  replace R_s := hid (R_s.out.later B9)
  replace R_d := hid (R_d.out.later B9)
  replace K := hid (K.out.trans (B9.mono K.out.size))
  clear B9
  clear A9
  have zK := K.out.size
  obtain ⟨bs, htS, hbs⟩ := R_s.out.pick (lo := W2.heap.size) (hi := W3.heap.size) SP_s.out 1
  obtain ⟨LS, hLS⟩ : ∃ L, (digs (val xs0 + val xs1)).length = L := ⟨_, rfl⟩
  have hLSb : LS ≤ 35184372087809 := by rw [← hLS]; exact digs_add_len (by have := L0.out.dl; omega) (by have := L1.out.dl; omega)
  rw [hLS] at htS ⊢
  have HTS := hid htS
  obtain ⟨bd, htD, hbd⟩ := R_d.out.pick (lo := W3.heap.size) (hi := W4.heap.size) SP_d.out 2
  obtain ⟨LD, hLD⟩ : ∃ L, (digs (val xs0 - val xs1)).length = L := ⟨_, rfl⟩
  have hLDb : LD ≤ 35184372087808 := by rw [← hLD]; exact Nat.le_trans (digs_length_mono (Nat.sub_le _ _)) (by have := L0.out.dl; omega)
  rw [hLD] at htD ⊢
  have HTD0 := hid htD
  have hne := hid (show bs ≠ bd from by omega)
  have q1 := hid (show gx ≠ bs ∧ gy ≠ bs ∧ w.heap.size ≤ bs ∧ W1.heap.size ≤ bs ∧ gx ≠ bd ∧ gy ≠ bd ∧ w.heap.size ≤ bd ∧ W1.heap.size ≤ bd from by omega)
  clear hLD htD hbd R_d SP_d
  clear hLS htS hbs R_s SP_s K zK z01 z12 z23 hgx hgy z34
  go_wp2_with fail
  go_loopw [54] (fun i wr => ∃ k : Nat, k ≤ LS ∧ i = .int .i64 k ∧ Hid (Touch bs W9 wr ∧ Target wr rs LS bs)) (fun i _ => LS - (intOf i).toNat)
  case atStart => exact ⟨0, Nat.zero_le _, rfl, Touch.refl _ _, HTS.out⟩
  case round =>
    obtain ⟨k, hk, rfl, HRS⟩ := hrel
    by_cases hltS : k < LS
    · obtain ⟨e1, ⟨x, hcx⟩, hfx⟩ := HRS.out.2.cell hltS
      subst e1
      go_wp2
      go_roundw
      case rel => exact ⟨k + 1, by omega, by go_num, HRS.out.1.setCell _ _, HRS.out.2.set k 5⟩
      case measure => simp [intOf]; omega
    · obtain ⟨tS, _⟩ := HRS.out
      have HCx2 := hid (HCx.out.touch tS q1.out.1 q1.out.2.2.1)
      have HCy2 := hid (HCy.out.touch tS q1.out.2.1 q1.out.2.2.2.1)
      have L_a2 := hid (tS.sl L_a.out (L0.out.apart q1.out.2.2.1))
      have L_b2 := hid (tS.sl L_b.out (L1.out.apart q1.out.2.2.1))
      have HTD := hid (HTD0.out.touch tS (Ne.symm hne.out))
      clear HCx HCy L_a L_b HTS HTD0 tS HRS
      obtain ⟨WS, hWS⟩ : ∃ WS, WS = wr := ⟨_, rfl⟩
      rw [← hWS] at HCx2 HCy2 L_a2 L_b2 HTD ⊢
      clear hWS
      go_wp2_with fail
      go_loopw [63] (fun i wr => ∃ k : Nat, k ≤ LD ∧ i = .int .i64 k ∧ Hid (Touch bd WS wr ∧ Target wr rd LD bd)) (fun i _ => LD - (intOf i).toNat)
      case atStart => exact ⟨0, Nat.zero_le _, rfl, Touch.refl _ _, HTD.out⟩
      case round =>
        obtain ⟨k, hk, rfl, HRD⟩ := hrel
        by_cases hltD : k < LD
        · obtain ⟨e1, ⟨x, hcx⟩, hfx⟩ := HRD.out.2.cell hltD
          subst e1
          go_wp2
          go_roundw
          case rel => exact ⟨k + 1, by omega, by go_num, HRD.out.1.setCell _ _, HRD.out.2.set k 6⟩
          case measure => simp [intOf]; omega
        · obtain ⟨tD, _⟩ := HRD.out
          have HCx3 := hid (HCx2.out.touch tD q1.out.2.2.2.2.1 q1.out.2.2.2.2.2.2.1)
          have HCy3 := hid (HCy2.out.touch tD q1.out.2.2.2.2.2.1 q1.out.2.2.2.2.2.2.2)
          have L_a3 := hid (tD.sl L_a2.out (L0.out.apart q1.out.2.2.2.2.2.2.1))
          have L_b3 := hid (tD.sl L_b2.out (L1.out.apart q1.out.2.2.2.2.2.2.1))
          clear HCx2 HCy2 L_a2 L_b2 HTD tD HRD
          go_wp2_with fail
          refine (kept_c w _ gx n0 crx xs0 p0 c0 HCx3.out L_a3.out b0).mono ?_
          rintro e wk ⟨rfl, nq, rfl⟩
          have HCy4 := hid (HCy3.out.later (below_drewN' (Below.refl _ _) nq))
          have L_b4 := hid (L_b3.out.below (below_drewN' (Below.refl _ _) nq))
          go_wp2_with fail
          refine (kept_c W1 _ gy n1 cry xs1 p1 c1 HCy4.out L_b4.out b1).mono ?_
          rintro e wk2 ⟨rfl, nq2, rfl⟩
          go_wp2
          go_ret
          exact ⟨rfl, below_drewN' HCx3.out.below _⟩

set_option maxHeartbeats 8000000 in
theorem sums_below (w : World) (p0 : Option Addr) (n0 c0 : Nat) (xs0 : List Nat) (p1 : Option Addr) (n1 c1 : Nat) (xs1 : List Nat) (h0 : Sl w p0 n0 c0 xs0) (h1 : Sl w p1 n1 c1 xs1)
    (b0 : c0 ≤ 35184372087808) (b1 : c1 ≤ 35184372087808) (hcmp : val xs0 < val xs1) :
    Calls Tryd.prog 4 #[.slice p0 n0 c0, .slice p1 n1 c1] w fun e w' => e = .returned (.bool true) ∧ Below w.heap.size w w' := by
  have hn0 : n0 ≤ 35184372087808 := Nat.le_trans h0.cap b0
  have hn1 : n1 ≤ 35184372087808 := Nat.le_trans h1.cap b1
  have L0 := hid h0
  have L1 := hid h1
  have L_a := hid h0
  have L_b := hid h1
  have HCMP := hid hcmp
  clear h0 h1 hcmp
  go_enter Tryd.func4, Tryd.ntmps4
  go_wp2_with fail
  refine (copied_c _ p0 n0 c0 xs0 L_a.out b0).mono ?_
  rintro e W1 ⟨gx, crx, rfl, C1⟩
  have B1 : Below w.heap.size w W1 := C1.below
  replace L_a := hid (L_a.out.below B1)
  replace L_b := hid (L_b.out.below B1)
  have HCx := hid (C1)
  clear B1
  have hgx : gx < W1.heap.size := Copy.lt C1
  have z01 : w.heap.size ≤ W1.heap.size := C1.below.size
  clear C1
  go_wp2_with fail
  refine (copied_c _ p1 n1 c1 xs1 L_b.out b1).mono ?_
  rintro e W2 ⟨gy, cry, rfl, C2⟩
  have B2 : Below W1.heap.size W1 W2 := C2.below
  replace L_a := hid (L_a.out.below B2)
  replace L_b := hid (L_b.out.below B2)
  replace HCx := hid (HCx.out.later B2)
  have HCy := hid (C2)
  clear B2
  have hgy : gy < W2.heap.size := Copy.lt C2
  have z12 : W1.heap.size ≤ W2.heap.size := C2.below.size
  clear C2
  have S_x := hid (HCx.out.sl L0.out.ok L0.out.len)
  have S_y := hid (HCy.out.sl L1.out.ok L1.out.len)
  go_wp2_with fail
  refine (add_c _ _ _ n0 crx n1 cry xs0 xs1 S_x.out S_y.out (by omega) (by omega)).mono ?_
  rintro e W3 ⟨rs, cs, rfl, R3⟩
  have B3 : Below W2.heap.size W2 W3 := R3.below
  replace L_a := hid (L_a.out.below B3)
  replace L_b := hid (L_b.out.below B3)
  replace HCx := hid (HCx.out.later B3)
  replace HCy := hid (HCy.out.later B3)
  replace S_x := hid (S_x.out.below B3)
  replace S_y := hid (S_y.out.below B3)
  have R_s := hid (R3)
  clear B3
  have SP_s := hid R3.span
  have z23 : W2.heap.size ≤ W3.heap.size := R3.below.size
  clear R3
  have K := hid (Below.refl W3.heap.size W3)
  go_wp2_with fail
  refine (sub_below _ _ _ n0 crx n1 cry xs0 xs1 S_x.out S_y.out HCMP.out).mono ?_
  rintro e wq ⟨rfl, nq, rfl⟩
  generalize hW4 : World.drewN W3 nq = W4
  have B4 : Below W3.heap.size W3 W4 := by rw [← hW4]; exact below_drewN' (Below.refl _ _) nq
  replace L_a := hid (L_a.out.below B4)
  replace L_b := hid (L_b.out.below B4)
  replace HCx := hid (HCx.out.later B4)
  replace HCy := hid (HCy.out.later B4)
  replace S_x := hid (S_x.out.below B4)
  replace S_y := hid (S_y.out.below B4)
  replace R_s := hid (R_s.out.later B4)
  replace K := hid (K.out.trans (B4.mono K.out.size))
  clear B4 hW4
  go_wp2_with fail
  refine (rsub_below _ p0 p1 n0 c0 n1 c1 xs0 xs1 L_a.out L_b.out HCMP.out).mono ?_
  rintro e W5 ⟨rfl, rfl⟩
  go_wp2_with fail
  refine (radd_c _ p0 p1 n0 c0 n1 c1 xs0 xs1 L_a.out L_b.out (by omega) (by omega)).mono ?_
  rintro e W6 ⟨rt, ct, rfl, A6⟩
  have B6 : Below W5.heap.size W5 W6 := A6.below
  replace L_a := hid (L_a.out.below B6)
  replace L_b := hid (L_b.out.below B6)
  replace HCx := hid (HCx.out.later B6)
  replace HCy := hid (HCy.out.later B6)
  replace S_x := hid (S_x.out.below B6)
  replace S_y := hid (S_y.out.below B6)
  replace R_s := hid (R_s.out.later B6)
  replace K := hid (K.out.trans (B6.mono K.out.size))
  have L_t := hid (A6.sl)
  clear B6
  clear A6
  go_wp2_with fail
  refine (same_c _ rs rt _ _ _ _ _ R_s.out.sl L_t.out).mono ?_
  rintro e wq ⟨rfl, nq, rfl⟩
  generalize hW7 : World.drewN W6 nq = W7
  have B7 : Below W6.heap.size W6 W7 := by rw [← hW7]; exact below_drewN' (Below.refl _ _) nq
  replace L_a := hid (L_a.out.below B7)
  replace L_b := hid (L_b.out.below B7)
  replace HCx := hid (HCx.out.later B7)
  replace HCy := hid (HCy.out.later B7)
  replace S_x := hid (S_x.out.below B7)
  replace S_y := hid (S_y.out.below B7)
  replace R_s := hid (R_s.out.later B7)
  replace K := hid (K.out.trans (B7.mono K.out.size))
  replace L_t := hid (L_t.out.below B7)
  clear B7 hW7
  clear L_t
  go_wp2_with fail
  refine (same_c _ none none 0 0 0 0 [] (Sl.none _) (Sl.none _)).mono ?_
  rintro e wq ⟨rfl, nq, rfl⟩
  generalize hW8 : World.drewN W7 nq = W8
  have B8 : Below W7.heap.size W7 W8 := by rw [← hW8]; exact below_drewN' (Below.refl _ _) nq
  replace L_a := hid (L_a.out.below B8)
  replace L_b := hid (L_b.out.below B8)
  replace HCx := hid (HCx.out.later B8)
  replace HCy := hid (HCy.out.later B8)
  replace S_x := hid (S_x.out.below B8)
  replace S_y := hid (S_y.out.below B8)
  replace R_s := hid (R_s.out.later B8)
  replace K := hid (K.out.trans (B8.mono K.out.size))
  clear B8 hW8
  clear S_x S_y
  go_wp2_with fail
  refine (awake_c _).mono ?_
  rintro e W9 ⟨rfl, A9⟩
  have B9 : Below W8.heap.size W8 W9 := A9
  replace L_a := hid (L_a.out.below B9)
  replace L_b := hid (L_b.out.below B9)
  replace HCx := hid (HCx.out.later B9)
  replace HCy := hid (HCy.out.later B9)
  replace R_s := hid (R_s.out.later B9)
  replace K := hid (K.out.trans (B9.mono K.out.size))
  clear B9
  clear A9
  have zK := K.out.size
  obtain ⟨bs, htS, hbs⟩ := R_s.out.pick (lo := W2.heap.size) (hi := W3.heap.size) SP_s.out 1
  obtain ⟨LS, hLS⟩ : ∃ L, (digs (val xs0 + val xs1)).length = L := ⟨_, rfl⟩
  have hLSb : LS ≤ 35184372087809 := by rw [← hLS]; exact digs_add_len (by have := L0.out.dl; omega) (by have := L1.out.dl; omega)
  rw [hLS] at htS ⊢
  have HTS := hid htS
  have q1 := hid (show gx ≠ bs ∧ gy ≠ bs ∧ w.heap.size ≤ bs ∧ W1.heap.size ≤ bs from by omega)
  clear hLS htS hbs R_s SP_s K zK z01 z12 z23 hgx hgy
  go_wp2_with fail
  go_loopw [54] (fun i wr => ∃ k : Nat, k ≤ LS ∧ i = .int .i64 k ∧ Hid (Touch bs W9 wr ∧ Target wr rs LS bs)) (fun i _ => LS - (intOf i).toNat)
  case atStart => exact ⟨0, Nat.zero_le _, rfl, Touch.refl _ _, HTS.out⟩
  case round =>
    obtain ⟨k, hk, rfl, HRS⟩ := hrel
    by_cases hltS : k < LS
    · obtain ⟨e1, ⟨x, hcx⟩, hfx⟩ := HRS.out.2.cell hltS
      subst e1
      go_wp2
      go_roundw
      case rel => exact ⟨k + 1, by omega, by go_num, HRS.out.1.setCell _ _, HRS.out.2.set k 5⟩
      case measure => simp [intOf]; omega
    · obtain ⟨tS, _⟩ := HRS.out
      have HCx2 := hid (HCx.out.touch tS q1.out.1 q1.out.2.2.1)
      have HCy2 := hid (HCy.out.touch tS q1.out.2.1 q1.out.2.2.2)
      have L_a2 := hid (tS.sl L_a.out (L0.out.apart q1.out.2.2.1))
      have L_b2 := hid (tS.sl L_b.out (L1.out.apart q1.out.2.2.1))
      clear HCx HCy L_a L_b HTS tS HRS
      obtain ⟨WS, hWS⟩ : ∃ WS, WS = wr := ⟨_, rfl⟩
      rw [← hWS] at HCx2 HCy2 L_a2 L_b2 ⊢
      clear hWS
      go_wp2_with fail
      go_loopw [63] (fun i wr => i = .int .i64 0 ∧ wr = WS) (fun _ _ => 0)
      case atStart => exact ⟨rfl, rfl⟩
      case round =>
        obtain ⟨rfl, rfl⟩ := hrel
        go_wp2_with fail
        refine (kept_c w _ gx n0 crx xs0 p0 c0 HCx2.out L_a2.out b0).mono ?_
        rintro e wk ⟨rfl, nq, rfl⟩
        have HCy4 := hid (HCy2.out.later (below_drewN' (Below.refl _ _) nq))
        have L_b4 := hid (L_b2.out.below (below_drewN' (Below.refl _ _) nq))
        go_wp2_with fail
        refine (kept_c W1 _ gy n1 cry xs1 p1 c1 HCy4.out L_b4.out b1).mono ?_
        rintro e wk2 ⟨rfl, nq2, rfl⟩
        go_wp2
        go_ret
        exact ⟨rfl, below_drewN' HCx2.out.below _⟩

theorem sums_walk (w : World) (p0 : Option Addr) (n0 c0 : Nat) (xs0 : List Nat) (p1 : Option Addr) (n1 c1 : Nat) (xs1 : List Nat) (h0 : Sl w p0 n0 c0 xs0) (h1 : Sl w p1 n1 c1 xs1)
    (b0 : c0 ≤ 35184372087808) (b1 : c1 ≤ 35184372087808) :
    Calls Tryd.prog 4 #[.slice p0 n0 c0, .slice p1 n1 c1] w fun e w' => e = .returned (.bool true) ∧ Below w.heap.size w w' := by
  by_cases h : val xs1 ≤ val xs0
  · exact sums_ok w p0 n0 c0 xs0 p1 n1 c1 xs1 h0 h1 b0 b1 h
  · exact sums_below w p0 n0 c0 xs0 p1 n1 c1 xs1 h0 h1 b0 b1 (by omega)
end Go.Proofs.YtgjkfegdnemjfaaDoor
