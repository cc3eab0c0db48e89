/-
  NatDivides' walk: it returns true and writes nothing that was there.
-/
import Derived.Test.YtpbdmpimojebgaaDoorDivZero
import Derived.Test.YtpbdmpimojebgaaDoorAwake
namespace Go.Proofs.YtpbdmpimojebgaaDoor
open Go.RowKit Nt
set_option linter.unusedSimpArgs false
set_option linter.unusedVariables false

theorem gcd_mod_left (a b : Nat) : a % Nat.gcd a b = 0 := Nat.mod_eq_zero_of_dvd (Nat.gcd_dvd_left a b)
theorem gcd_mod_right (a b : Nat) : b % Nat.gcd a b = 0 := Nat.mod_eq_zero_of_dvd (Nat.gcd_dvd_right a b)
theorem cmpN_le {a b : Nat} (h : a ≤ b) : cmpN a b ≤ 0 := by
  unfold cmpN
  split
  · omega
  · rw [if_pos (by omega)]; omega
theorem cmpN_gt {a b : Nat} (h : b < a) : cmpN a b = 1 := by
  unfold cmpN
  rw [if_neg (by omega), if_neg (by omega)]

set_option maxHeartbeats 8000000 in
theorem divides_zero (w : World) (p0 : Option Addr) (n0 c0 : Nat) (p1 : Option Addr) (n1 c1 A B : Nat) (h0 : Num w p0 n0 c0 A) (h1 : Num w p1 n1 c1 B)
    (b0 : n0 ≤ 35184372087808) (b1 : n1 ≤ 35184372087808) (hB : B = 0) :
    Calls Tryd.prog 3 #[.slice p0 n0 c0, .slice p1 n1 c1] w fun e w' => e = .returned (.bool true) ∧ Below w.heap.size w w' := by
  have HB := hid (Below.refl w.heap.size w)
  have N_a := hid h0
  have N_b := hid h1
  have dA := h0.len b0
  have dB := h1.len b1
  have HdA := hid dA
  have HdB := hid dB
  clear h0 h1 dA dB
  have hbl : Go.bitLen B = 0 := (bitLen_nil B).2 hB
  have HZ := hid hB
  have HBL := hid hbl
  have hG : Nat.gcd A B = A := by rw [hB, Nat.gcd_zero_right]
  have HG := hid hG
  clear hB hbl hG
  go_enter Tryd.func3, Tryd.ntmps3
  go_wp2_with fail
  refine (awake_c _).mono ?_
  rintro e W1 ⟨rfl, bel⟩
  have B1 : Below w.heap.size w W1 := bel
  replace HB := hid (HB.out.trans (B1.mono HB.out.size))
  replace N_a := hid (N_a.out.below B1)
  replace N_b := hid (N_b.out.below B1)
  clear B1
  clear bel
  go_wp2_with fail
  refine (div_zero_n _ p0 p1 n0 c0 n1 c1 A B N_a.out N_b.out HZ.out).mono ?_
  rintro e W2 ⟨rfl, rfl⟩
  have BT := bits_n W2 p1 n1 c1 B N_b.out (by omega)
  rw [HBL.out] at BT
  have HBT := hid BT
  clear BT
  go_wp2_with fail
  refine (HBT.out).mono ?_
  rintro e W3 ⟨rfl, rfl⟩
  go_wp2_with fail
  refine (gcd_n _ p0 p1 n0 c0 n1 c1 A B N_a.out N_b.out (by omega) (by omega)).mono ?_
  rintro e W4 ⟨r_g, c_g, rfl, R4⟩
  have B4 := R4.below
  replace HB := hid (HB.out.trans (B4.mono HB.out.size))
  replace N_a := hid (N_a.out.below B4)
  replace N_b := hid (N_b.out.below B4)
  have S4 := R4.sl
  obtain ⟨l_g, hl4⟩ : ∃ l, (digs (Nat.gcd A B)).length = l := ⟨_, rfl⟩
  rw [hl4] at S4 ⊢
  have S_g := hid (S4)
  clear R4 S4 hl4 B4
  rw [HG.out] at S_g
  go_wp2_with fail
  refine (norm_n _ p0 n0 c0 A N_a.out 35184372087808 b0 (by omega)).mono ?_
  rintro e W5 ⟨r_n, c_n, rfl, R5, _⟩
  have B5 := R5.below
  replace HB := hid (HB.out.trans (B5.mono HB.out.size))
  replace N_a := hid (N_a.out.below B5)
  replace N_b := hid (N_b.out.below B5)
  replace S_g := hid (S_g.out.below B5)
  have S5 := R5.sl
  obtain ⟨l_n, hl5⟩ : ∃ l, (digs (A)).length = l := ⟨_, rfl⟩
  rw [hl5] at S5 ⊢
  have S_n := hid (S5)
  clear R5 S5 hl5 B5
  go_wp2_with fail
  refine (same_n _ r_g r_n l_g c_g l_n c_n A A S_g.out S_n.out rfl).mono ?_
  rintro e wq ⟨rfl, nq, rfl⟩
  generalize hW6 : World.drewN W5 nq = W6
  have B6 : Below W5.heap.size W5 W6 := by rw [← hW6]; exact below_drewN' (Below.refl _ _) nq
  replace HB := hid (HB.out.trans (B6.mono HB.out.size))
  replace N_a := hid (N_a.out.below B6)
  replace N_b := hid (N_b.out.below B6)
  replace S_g := hid (S_g.out.below B6)
  replace S_n := hid (S_n.out.below B6)
  clear B6 hW6
  go_wp2
  go_ret
  exact ⟨rfl, HB.out⟩

set_option maxHeartbeats 8000000 in
theorem divides_pos (w : World) (p0 : Option Addr) (n0 c0 : Nat) (p1 : Option Addr) (n1 c1 A B : Nat) (h0 : Num w p0 n0 c0 A) (h1 : Num w p1 n1 c1 B)
    (b0 : n0 ≤ 35184372087808) (b1 : n1 ≤ 35184372087808) (hB : B ≠ 0) :
    Calls Tryd.prog 3 #[.slice p0 n0 c0, .slice p1 n1 c1] w fun e w' => e = .returned (.bool true) ∧ Below w.heap.size w w' := by
  have HB := hid (Below.refl w.heap.size w)
  have N_a := hid h0
  have N_b := hid h1
  have dA := h0.len b0
  have dB := h1.len b1
  have HdA := hid dA
  have HdB := hid dB
  clear h0 h1 dA dB
  obtain ⟨bl, hbl⟩ : ∃ bl, Go.bitLen B = bl := ⟨_, rfl⟩
  have hb0 : bl ≠ 0 := by rw [← hbl]; exact fun e => hB ((bitLen_nil B).1 e)
  have hbz : ((bl : Int) == 0) = false := beq_eq_false_iff_ne.2 (by omega)
  have HBL := hid hbl
  have HNZ := hid hB
  clear hB hbl
  go_enter Tryd.func3, Tryd.ntmps3
  go_wp2_with fail
  refine (awake_c _).mono ?_
  rintro e W1 ⟨rfl, bel⟩
  have B1 : Below w.heap.size w W1 := bel
  replace HB := hid (HB.out.trans (B1.mono HB.out.size))
  replace N_a := hid (N_a.out.below B1)
  replace N_b := hid (N_b.out.below B1)
  clear B1
  clear bel
  go_wp2_with fail
  refine (div_n _ p0 p1 n0 c0 n1 c1 A B N_a.out N_b.out HNZ.out (by omega)).mono ?_
  rintro e W2 ⟨r_q, c_q, r_r, c_r, rfl, R2, R2', _⟩
  have B2 := R2.below
  replace HB := hid (HB.out.trans (B2.mono HB.out.size))
  replace N_a := hid (N_a.out.below B2)
  replace N_b := hid (N_b.out.below B2)
  have S2 := R2.sl
  have S2' := R2'.sl
  obtain ⟨l_q, hl2⟩ : ∃ l, (digs (A / B)).length = l := ⟨_, rfl⟩
  rw [hl2] at S2 ⊢
  have y_q : l_q ≤ 35184372087808 := by rw [← hl2]; exact Nat.le_trans (digs_length_mono (Nat.div_le_self _ _)) HdA.out
  obtain ⟨l_r, hl2'⟩ : ∃ l, (digs (A % B)).length = l := ⟨_, rfl⟩
  rw [hl2'] at S2' ⊢
  have y_r : l_r ≤ 35184372087808 := by rw [← hl2']; exact Nat.le_trans (digs_length_mono (Nat.mod_le _ _)) HdA.out
  have S_q := hid (S2)
  have S_r := hid (S2')
  clear R2 R2' S2 S2' hl2 B2
  clear hl2'
  have BT := bits_n W2 p1 n1 c1 B N_b.out (by omega)
  rw [HBL.out] at BT
  have HBT := hid BT
  clear BT
  go_wp2_with fail
  refine (HBT.out).mono ?_
  rintro e W3 ⟨rfl, rfl⟩
  have CM := cmp_n W3 r_r p1 l_r c_r n1 c1 (A % B) B S_r.out.numd N_b.out
  rw [cmpN_lt (Nat.mod_lt A (Nat.pos_of_ne_zero HNZ.out))] at CM
  have HCM := hid CM
  clear CM
  go_wp2_with fail
  refine (HCM.out).mono ?_
  rintro e wq ⟨rfl, nq, rfl⟩
  generalize hW4 : World.drewN W3 nq = W4
  have B4 : Below W3.heap.size W3 W4 := by rw [← hW4]; exact below_drewN' (Below.refl _ _) nq
  replace HB := hid (HB.out.trans (B4.mono HB.out.size))
  replace N_a := hid (N_a.out.below B4)
  replace N_b := hid (N_b.out.below B4)
  replace S_q := hid (S_q.out.below B4)
  replace S_r := hid (S_r.out.below B4)
  clear B4 hW4
  go_wp2_with fail
  refine (mul_n _ r_q p1 l_q c_q n1 c1 (A / B) B S_q.out.numd N_b.out 70368744175616 (by omega) (by omega)).mono ?_
  rintro e W5 ⟨r_m, c_m, rfl, R5, Z⟩
  have B5 := R5.below
  replace HB := hid (HB.out.trans (B5.mono HB.out.size))
  replace N_a := hid (N_a.out.below B5)
  replace N_b := hid (N_b.out.below B5)
  replace S_q := hid (S_q.out.below B5)
  replace S_r := hid (S_r.out.below B5)
  have S5 := R5.sl
  obtain ⟨l_m, hl5⟩ : ∃ l, (digs (A / B * B)).length = l := ⟨_, rfl⟩
  have y_m : l_m ≤ 70368744175616 := by rw [← hl5]; exact Z
  rw [hl5] at S5 ⊢
  have S_m := hid (S5)
  clear R5 S5 hl5 B5
  clear Z
  go_wp2_with fail
  refine (add_n _ r_m r_r l_m c_m l_r c_r (A / B * B) (A % B) S_m.out.numd S_r.out.numd 70368744175616 (by omega) (by omega) (by omega)).mono ?_
  rintro e W6 ⟨r_s, c_s, rfl, R6, _⟩
  have B6 := R6.below
  replace HB := hid (HB.out.trans (B6.mono HB.out.size))
  replace N_a := hid (N_a.out.below B6)
  replace N_b := hid (N_b.out.below B6)
  replace S_q := hid (S_q.out.below B6)
  replace S_r := hid (S_r.out.below B6)
  replace S_m := hid (S_m.out.below B6)
  have S6 := R6.sl
  obtain ⟨l_s, hl6⟩ : ∃ l, (digs (A / B * B + A % B)).length = l := ⟨_, rfl⟩
  rw [hl6] at S6 ⊢
  have S_s := hid (S6)
  clear R6 S6 hl6 B6
  go_wp2_with fail
  refine (norm_n _ p0 n0 c0 A N_a.out 35184372087808 b0 (by omega)).mono ?_
  rintro e W7 ⟨r_n, c_n, rfl, R7, _⟩
  have B7 := R7.below
  replace HB := hid (HB.out.trans (B7.mono HB.out.size))
  replace N_a := hid (N_a.out.below B7)
  replace N_b := hid (N_b.out.below B7)
  replace S_q := hid (S_q.out.below B7)
  replace S_r := hid (S_r.out.below B7)
  replace S_m := hid (S_m.out.below B7)
  replace S_s := hid (S_s.out.below B7)
  have S7 := R7.sl
  obtain ⟨l_n, hl7⟩ : ∃ l, (digs (A)).length = l := ⟨_, rfl⟩
  rw [hl7] at S7 ⊢
  have S_n := hid (S7)
  clear R7 S7 hl7 B7
  go_wp2_with fail
  refine (same_n _ r_s r_n l_s c_s l_n c_n (A / B * B + A % B) A S_s.out S_n.out (Nat.div_add_mod' A B)).mono ?_
  rintro e wq ⟨rfl, nq, rfl⟩
  generalize hW8 : World.drewN W7 nq = W8
  have B8 : Below W7.heap.size W7 W8 := by rw [← hW8]; exact below_drewN' (Below.refl _ _) nq
  replace HB := hid (HB.out.trans (B8.mono HB.out.size))
  replace N_a := hid (N_a.out.below B8)
  replace N_b := hid (N_b.out.below B8)
  replace S_q := hid (S_q.out.below B8)
  replace S_r := hid (S_r.out.below B8)
  replace S_m := hid (S_m.out.below B8)
  replace S_s := hid (S_s.out.below B8)
  replace S_n := hid (S_n.out.below B8)
  clear B8 hW8
  clear S_s S_n S_m S_q S_r
  go_wp2_with fail
  refine (gcd_n _ p0 p1 n0 c0 n1 c1 A B N_a.out N_b.out (by omega) (by omega)).mono ?_
  rintro e W9 ⟨r_g, c_g, rfl, R9⟩
  have B9 := R9.below
  replace HB := hid (HB.out.trans (B9.mono HB.out.size))
  replace N_a := hid (N_a.out.below B9)
  replace N_b := hid (N_b.out.below B9)
  have S9 := R9.sl
  obtain ⟨l_g, hl9⟩ : ∃ l, (digs (Nat.gcd A B)).length = l := ⟨_, rfl⟩
  have y_g : l_g ≤ 35184372087808 := by rw [← hl9]; exact Nat.le_trans (digs_length_mono (Nat.gcd_le_right A (Nat.pos_of_ne_zero HNZ.out))) HdB.out
  rw [hl9] at S9 ⊢
  have S_g := hid (S9)
  clear R9 S9 hl9 B9
  have hg0 : Nat.gcd A B ≠ 0 := fun e => HNZ.out (Nat.eq_zero_of_gcd_eq_zero_right e)
  have HG0 := hid hg0
  clear hg0
  go_wp2_with fail
  refine (div_n _ p0 r_g n0 c0 l_g c_g A (Nat.gcd A B) N_a.out S_g.out.numd HG0.out (by omega)).mono ?_
  rintro e W10 ⟨r_x, c_x, r_u, c_u, rfl, R10, R10', _⟩
  have B10 := R10.below
  replace HB := hid (HB.out.trans (B10.mono HB.out.size))
  replace N_a := hid (N_a.out.below B10)
  replace N_b := hid (N_b.out.below B10)
  replace S_g := hid (S_g.out.below B10)
  have S10 := R10.sl
  have S10' := R10'.sl
  obtain ⟨l_x, hl10⟩ : ∃ l, (digs (A / Nat.gcd A B)).length = l := ⟨_, rfl⟩
  rw [hl10] at S10 ⊢
  have y_x : l_x ≤ 35184372087808 := by rw [← hl10]; exact Nat.le_trans (digs_length_mono (Nat.div_le_self _ _)) HdA.out
  obtain ⟨l_u, hl10'⟩ : ∃ l, (digs (A % Nat.gcd A B)).length = l := ⟨_, rfl⟩
  rw [hl10'] at S10' ⊢
  have y_u : l_u ≤ 35184372087808 := by rw [← hl10']; exact Nat.le_trans (digs_length_mono (Nat.mod_le _ _)) HdA.out
  have S_x := hid (S10)
  have S_u := hid (S10')
  clear R10 R10' S10 S10' hl10 B10
  have z_u : l_u = 0 := by rw [← hl10', gcd_mod_left]; rfl
  subst z_u
  clear hl10'
  clear S_x S_u
  go_wp2_with fail
  refine (div_n _ p1 r_g n1 c1 l_g c_g B (Nat.gcd A B) N_b.out S_g.out.numd HG0.out (by omega)).mono ?_
  rintro e W11 ⟨r_y, c_y, r_v, c_v, rfl, R11, R11', _⟩
  have B11 := R11.below
  replace HB := hid (HB.out.trans (B11.mono HB.out.size))
  replace N_a := hid (N_a.out.below B11)
  replace N_b := hid (N_b.out.below B11)
  replace S_g := hid (S_g.out.below B11)
  have S11 := R11.sl
  have S11' := R11'.sl
  obtain ⟨l_y, hl11⟩ : ∃ l, (digs (B / Nat.gcd A B)).length = l := ⟨_, rfl⟩
  rw [hl11] at S11 ⊢
  have y_y : l_y ≤ 35184372087808 := by rw [← hl11]; exact Nat.le_trans (digs_length_mono (Nat.div_le_self _ _)) HdB.out
  obtain ⟨l_v, hl11'⟩ : ∃ l, (digs (B % Nat.gcd A B)).length = l := ⟨_, rfl⟩
  rw [hl11'] at S11' ⊢
  have y_v : l_v ≤ 35184372087808 := by rw [← hl11']; exact Nat.le_trans (digs_length_mono (Nat.mod_le _ _)) HdB.out
  have S_y := hid (S11)
  have S_v := hid (S11')
  clear R11 R11' S11 S11' hl11 B11
  have z_v : l_v = 0 := by rw [← hl11', gcd_mod_right]; rfl
  subst z_v
  clear hl11'
  clear S_y S_v S_g
  go_wp2_with fail
  refine (root_n _ p0 n0 c0 A N_a.out (by omega)).mono ?_
  rintro e W12 ⟨R, r_o, c_o, rfl, R12, IR⟩
  have B12 := R12.below
  replace HB := hid (HB.out.trans (B12.mono HB.out.size))
  replace N_a := hid (N_a.out.below B12)
  replace N_b := hid (N_b.out.below B12)
  have S12 := R12.sl
  obtain ⟨l_o, hl12⟩ : ∃ l, (digs (R)).length = l := ⟨_, rfl⟩
  have y_o : l_o ≤ 35184372087808 := by rw [← hl12]; exact Nat.le_trans (digs_length_mono (isRoot_le IR)) HdA.out
  rw [hl12] at S12 ⊢
  have S_o := hid (S12)
  clear R12 S12 hl12 B12
  have HIR := hid IR
  clear IR
  have hone : Sl (W12.alloc (.cells #[.int .u32 1] 32)) (some ⟨W12.heap.size, 0, none⟩) 1 1 [1] := sl_one (blk_one (z := 1) rfl (heap_alloc_last _ _)) (by omega)
  have ha1 : Below W12.heap.size W12 (W12.alloc (.cells #[.int .u32 1] 32)) := (Below.refl _ _).alloc (Nat.le_refl _) _
  have HONE := hid (show Num _ _ 1 1 1 from hone.num.cast rfl)
  have HA1 := hid ha1
  clear hone ha1
  go_wp2_with fail
  refine (add_n _ r_o (some ⟨W12.heap.size, 0, none⟩) l_o c_o 1 1 R 1 (S_o.out.below HA1.out).numd HONE.out 35184372087808 (by omega) (by omega) (by omega)).mono ?_
  rintro e W13 ⟨r_t, c_t, rfl, R13, Z⟩
  have B13 : Below W12.heap.size W12 W13 := HA1.out.trans (R13.below.mono HA1.out.size)
  replace HB := hid (HB.out.trans (B13.mono HB.out.size))
  replace N_a := hid (N_a.out.below B13)
  replace N_b := hid (N_b.out.below B13)
  replace S_o := hid (S_o.out.below B13)
  have S13 := R13.sl
  obtain ⟨l_t, hl13⟩ : ∃ l, (digs (R + 1)).length = l := ⟨_, rfl⟩
  rw [hl13] at S13 Z ⊢
  have S_t := hid (S13)
  clear R13 S13 hl13 B13 HONE HA1
  go_wp2_with fail
  refine (mul_n _ r_o r_o l_o c_o l_o c_o R R S_o.out.numd S_o.out.numd 70368744175616 (by omega) (by omega)).mono ?_
  rintro e W14 ⟨r_oo, c_oo, rfl, R14, _⟩
  have B14 := R14.below
  replace HB := hid (HB.out.trans (B14.mono HB.out.size))
  replace N_a := hid (N_a.out.below B14)
  replace N_b := hid (N_b.out.below B14)
  replace S_o := hid (S_o.out.below B14)
  replace S_t := hid (S_t.out.below B14)
  have S14 := R14.sl
  obtain ⟨l_oo, hl14⟩ : ∃ l, (digs (R * R)).length = l := ⟨_, rfl⟩
  rw [hl14] at S14 ⊢
  have S_oo := hid (S14)
  clear R14 S14 hl14 B14
  have CM := cmp_n W14 r_oo p0 l_oo c_oo n0 c0 (R * R) A S_oo.out.numd N_a.out
  have hcm := cmpN_le HIR.out.1
  obtain ⟨cv, hcv⟩ : ∃ cv, cmpN (R * R) A = cv := ⟨_, rfl⟩
  rw [hcv] at CM hcm
  have HCM2 := hid CM
  clear CM hcv
  go_wp2_with fail
  refine (HCM2.out).mono ?_
  rintro e wq ⟨rfl, nq, rfl⟩
  generalize hW15 : World.drewN W14 nq = W15
  have B15 : Below W14.heap.size W14 W15 := by rw [← hW15]; exact below_drewN' (Below.refl _ _) nq
  replace HB := hid (HB.out.trans (B15.mono HB.out.size))
  replace N_a := hid (N_a.out.below B15)
  replace N_b := hid (N_b.out.below B15)
  replace S_o := hid (S_o.out.below B15)
  replace S_t := hid (S_t.out.below B15)
  replace S_oo := hid (S_oo.out.below B15)
  clear B15 hW15
  go_wp2_with fail
  refine (mul_n _ r_t r_t l_t c_t l_t c_t (R + 1) (R + 1) S_t.out.numd S_t.out.numd 70368744175618 (by omega) (by omega)).mono ?_
  rintro e W16 ⟨r_tt, c_tt, rfl, R16, _⟩
  have B16 := R16.below
  replace HB := hid (HB.out.trans (B16.mono HB.out.size))
  replace N_a := hid (N_a.out.below B16)
  replace N_b := hid (N_b.out.below B16)
  replace S_o := hid (S_o.out.below B16)
  replace S_t := hid (S_t.out.below B16)
  replace S_oo := hid (S_oo.out.below B16)
  have S16 := R16.sl
  obtain ⟨l_tt, hl16⟩ : ∃ l, (digs ((R + 1) * (R + 1))).length = l := ⟨_, rfl⟩
  rw [hl16] at S16 ⊢
  have S_tt := hid (S16)
  clear R16 S16 hl16 B16
  have CM := cmp_n W16 r_tt p0 l_tt c_tt n0 c0 ((R + 1) * (R + 1)) A S_tt.out.numd N_a.out
  rw [cmpN_gt HIR.out.2] at CM
  have HCM3 := hid CM
  clear CM
  go_wp2_with fail
  refine (HCM3.out).mono ?_
  rintro e wq ⟨rfl, nq, rfl⟩
  generalize hW17 : World.drewN W16 nq = W17
  have B17 : Below W16.heap.size W16 W17 := by rw [← hW17]; exact below_drewN' (Below.refl _ _) nq
  replace HB := hid (HB.out.trans (B17.mono HB.out.size))
  replace N_a := hid (N_a.out.below B17)
  replace N_b := hid (N_b.out.below B17)
  replace S_o := hid (S_o.out.below B17)
  replace S_t := hid (S_t.out.below B17)
  replace S_oo := hid (S_oo.out.below B17)
  replace S_tt := hid (S_tt.out.below B17)
  clear B17 hW17
  go_wp2
  go_ret
  exact ⟨rfl, HB.out⟩

theorem divides_walk (w : World) (p0 : Option Addr) (n0 c0 : Nat) (xs0 : List Nat) (p1 : Option Addr) (n1 c1 : Nat) (xs1 : List Nat) (h0 : Sl w p0 n0 c0 xs0) (h1 : Sl w p1 n1 c1 xs1)
    (b0 : c0 ≤ 35184372087808) (b1 : c1 ≤ 35184372087808) :
    Calls Tryd.prog 3 #[.slice p0 n0 c0, .slice p1 n1 c1] w fun e w' => e = .returned (.bool true) ∧ Below w.heap.size w w' := by
  by_cases hB : val xs1 = 0
  · exact divides_zero w p0 n0 c0 p1 n1 c1 (val xs0) (val xs1) h0.num h1.num (Nat.le_trans h0.cap b0) (Nat.le_trans h1.cap b1) hB
  · exact divides_pos w p0 n0 c0 p1 n1 c1 (val xs0) (val xs1) h0.num h1.num (Nat.le_trans h0.cap b0) (Nat.le_trans h1.cap b1) hB
end Go.Proofs.YtpbdmpimojebgaaDoor
