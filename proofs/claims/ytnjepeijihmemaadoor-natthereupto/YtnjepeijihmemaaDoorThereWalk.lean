/-
  NatThere's walk: it returns true and writes nothing that was there.
-/
import Derived.Test.YtnjepeijihmemaaDoorRead
import Derived.Test.YtnjepeijihmemaaDoorDown
import Derived.Test.YtnjepeijihmemaaDoorAwake
namespace Go.Proofs.YtnjepeijihmemaaDoor
open Go.RowKit Nt
set_option linter.unusedSimpArgs false
set_option linter.unusedVariables false

theorem bits_m (w : World) (p : Option Addr) (n c a : Nat) (h : Num w p n c a) (hs : n ≤ 288230376151711743) :
    Calls Tryd.prog 13 #[.slice p n c] w fun e w' => e = .returned (.int .i64 (Go.bitLen a : Nat)) ∧ w' = w := by
  obtain ⟨xs, h1, rfl⟩ := h
  exact bits_c w p n c xs h1 hs
theorem bl_zero (v : Nat) : Go.bitLen v = 0 ↔ v = 0 := by
  constructor
  · intro h
    have := (bitLen_spec v).1
    rw [h] at this
    omega
  · intro h
    rw [h]
    rfl
theorem bl_len2 {X n : Nat} (h : (digs X).length ≤ n) : Go.bitLen X ≤ 32 * n := by
  obtain ⟨s1, s2⟩ := bitLen_spec X
  by_cases h0 : X = 0
  · rw [h0, show Go.bitLen 0 = 0 from rfl]; omega
  · have s3 := s2 h0
    apply Classical.byContradiction
    intro hc
    have h1 := lt_pow_digs X
    have h2 : (4294967296 : Nat) ^ (digs X).length ≤ 4294967296 ^ n := Nat.pow_le_pow_right (by omega) h
    have h3 : (4294967296 : Nat) ^ n = 2 ^ (32 * n) := by rw [Nat.pow_mul]
    have h4 : 2 ^ (32 * n) ≤ 2 ^ (Go.bitLen X - 1) := Nat.pow_le_pow_right (by omega) (by omega)
    omega
/-- Not more decimal digits than binary ones, and one. -/
theorem dec_len (X : Nat) : (Lib.decDigits X).length ≤ Go.bitLen X + 1 := by
  induction X using Nat.strongRecOn with
  | _ u ih =>
    rw [Lib.decDigits]
    split
    · simp
    · rename_i h
      have h1 := ih (u / 10) (by omega)
      rw [List.length_append, List.length_singleton]
      have h2 : Go.bitLen (u / 10) + 1 ≤ Go.bitLen u := by
        obtain ⟨s1, s2⟩ := bitLen_spec (u / 10)
        have s3 := s2 (by omega)
        obtain ⟨t1, _⟩ := bitLen_spec u
        have hb : Go.bitLen (u / 10) ≠ 0 := fun e => by rw [e] at s1; omega
        apply Classical.byContradiction
        intro hc
        have h3 : 2 ^ Go.bitLen u ≤ 2 ^ Go.bitLen (u / 10) := Nat.pow_le_pow_right (by omega) (by omega)
        have h4 : 2 ^ Go.bitLen (u / 10) = 2 * 2 ^ (Go.bitLen (u / 10) - 1) := by
          rw [show Go.bitLen (u / 10) = (Go.bitLen (u / 10) - 1) + 1 from by omega, Nat.pow_succ]
          simp
          omega
        omega
      omega
theorem bl_shift {A x : Nat} (h : A ≠ 0) : Go.bitLen (A * 2 ^ x) = Go.bitLen A + x := by
  obtain ⟨s1, s2⟩ := bitLen_spec A
  have s3 := s2 h
  have hb : Go.bitLen A ≠ 0 := fun e => h ((bl_zero A).1 e)
  apply bl_unique
  · rw [Nat.pow_add]
    exact Nat.mul_lt_mul_of_pos_right s1 (Nat.pow_pos (by omega))
  · intro _
    rw [show Go.bitLen A + x - 1 = (Go.bitLen A - 1) + x from by omega, Nat.pow_add]
    exact Nat.mul_le_mul_right _ s3
theorem shl_num (w : World) (p : Option Addr) (n c a : Nat) (z : Int) (h : Num w p n c a) (hn : n ≤ 35184372088832) (hz : -9223372036854775808 ≤ z) (hz' : z ≤ 9223372036854775807) :
    Calls Tryd.prog 12 #[.slice p n c, .int .i64 z] w fun e w' => ∃ r cr, e = .returned (.tuple #[.slice r (digs (shlV a z)).length cr, .int .i64 (shlE a z)]) ∧ Sl w' r (digs (shlV a z)).length cr (digs (shlV a z)) ∧ Below w.heap.size w w' := by
  obtain ⟨xs, h1, rfl⟩ := h
  exact shl_c w p n c xs z h1 hn hz hz'
theorem shr_num (w : World) (p : Option Addr) (n c a : Nat) (z : Int) (h : Num w p n c a) (hn : n ≤ 35184372088832) (hz : -9223372036854775808 ≤ z) (hz' : z ≤ 9223372036854775807) :
    Calls Tryd.prog 14 #[.slice p n c, .int .i64 z] w fun e w' => ∃ r cr, e = .returned (.tuple #[.slice r (digs (shrV a z)).length cr, .int .i64 (shrE z)]) ∧ Sl w' r (digs (shrV a z)).length cr (digs (shrV a z)) ∧ Below w.heap.size w w' := by
  obtain ⟨xs, h1, rfl⟩ := h
  exact shr_c w p n c xs z h1 hn hz hz'
theorem text_n (w : World) (p : Option Addr) (n c a : Nat) (s : ByteArray) (hs : (⟨(Lib.decDigits a).toArray⟩ : ByteArray) = s) (h : Num w p n c a) (hn : n ≤ 1048577) (ht : Tab w) :
    Calls Tryd.prog 7 #[.slice p n c] w fun e w' => e = .returned (.string s) ∧ Below w.heap.size w w' := by
  obtain ⟨xs, h1, rfl⟩ := h
  rw [← hs]
  exact text_c w p n c xs h1 hn ht
theorem read_dec (w : World) (a : Nat) (s : ByteArray) (hs : (⟨(Lib.decDigits a).toArray⟩ : ByteArray) = s) (hl : s.size ≤ 65536) :
    Calls Tryd.prog 5 #[.string s] w fun e w' => ∃ r cr, e = .returned (.tuple #[.slice r (digs a).length cr, .int .i64 0, .int .i64 0]) ∧ Ans w w' r cr a := by
  have e1 : s.data.toList = Lib.decDigits a := by rw [← hs]
  have e2 : s.size = (Lib.decDigits a).length := by rw [← hs]; simp [ByteArray.size]
  refine (read_c w s (by rw [e2]; exact List.length_pos_iff.2 (dec_ne a)) hl).mono ?_
  rintro e w' (⟨i, hi, hb, _⟩ | ⟨_, r, cr, he, hA⟩)
  · rw [e1] at hb
    exact absurd hb (dec_good a i (by rw [← e2]; exact hi))
  · rw [e1, decV_dec] at he hA
    exact ⟨r, cr, he, hA⟩

set_option maxHeartbeats 8000000 in
theorem there_s_much (w : World) (p0 : Option Addr) (n0 c0 A : Nat) (x1 : Int) (s : ByteArray) (hs : (⟨(Lib.decDigits A).toArray⟩ : ByteArray) = s) (h0 : Num w p0 n0 c0 A) (b0 : n0 ≤ 1048576) (b1 : 0 ≤ x1 ∧ x1 ≤ 255) (ht : Tab w)
    (hs3 : s.size ≤ 9223372036854775807) (hsz : s.size ≤ 65536) (hbits : 1048320 < Go.bitLen A) (hbz : Go.bitLen A ≤ 33554432) :
    Calls Tryd.prog 4 #[.slice p0 n0 c0, .int .u8 x1] w fun e w' => e = .returned (.bool true) ∧ Below w.heap.size w w' := by
  have HB := hid (Below.refl w.heap.size w)
  have N_a := hid h0
  have HT := hid ht
  have HS := hid hs
  have x0 : 0 ≤ x1 := b1.1
  have x2 : x1 ≤ 255 := b1.2
  clear h0 ht hs b1
  go_enter Tryd.func4, Tryd.ntmps4
  go_wp2_with fail
  refine (awake_c _).mono ?_
  rintro e W1 ⟨rfl, bel⟩
  have B1 : Below w.heap.size w W1 := bel
  replace HB := hid (HB.out.trans (B1.mono HB.out.size))
  replace N_a := hid (N_a.out.below B1)
  replace HT := hid (HT.out.below B1)
  clear B1
  clear bel
  go_wp2_with fail
  refine (text_n _ p0 n0 c0 A s HS.out N_a.out (by omega) HT.out).mono ?_
  rintro e W2 ⟨rfl, bel⟩
  have B2 : Below W1.heap.size W1 W2 := bel
  replace HB := hid (HB.out.trans (B2.mono HB.out.size))
  replace N_a := hid (N_a.out.below B2)
  replace HT := hid (HT.out.below B2)
  clear B2
  clear bel
  go_wp2_with fail
  refine (read_dec _ A s HS.out hsz).mono ?_
  rintro e W3 ⟨r_x, c_x, rfl, R3⟩
  have B3 := R3.below
  replace HB := hid (HB.out.trans (B3.mono HB.out.size))
  replace N_a := hid (N_a.out.below B3)
  replace HT := hid (HT.out.below B3)
  have S3 := R3.sl
  obtain ⟨l_x, hl3⟩ : ∃ l, (digs (A)).length = l := ⟨_, rfl⟩
  rw [hl3] at S3 ⊢
  have S_x := hid (S3)
  clear S3 B3
  clear R3 hl3
  go_wp2_with fail
  refine (text_n _ p0 n0 c0 A s HS.out N_a.out (by omega) HT.out).mono ?_
  rintro e W4 ⟨rfl, bel⟩
  have B4 : Below W3.heap.size W3 W4 := bel
  replace HB := hid (HB.out.trans (B4.mono HB.out.size))
  replace N_a := hid (N_a.out.below B4)
  replace HT := hid (HT.out.below B4)
  replace S_x := hid (S_x.out.below B4)
  clear B4
  clear bel
  go_wp2_with fail
  refine (norm_n _ p0 n0 c0 A N_a.out 1048576 b0 (by omega)).mono ?_
  rintro e W5 ⟨r_n, c_n, rfl, R5, _⟩
  have B5 := R5.below
  replace HB := hid (HB.out.trans (B5.mono HB.out.size))
  replace N_a := hid (N_a.out.below B5)
  replace HT := hid (HT.out.below B5)
  replace S_x := hid (S_x.out.below B5)
  have S5 := R5.sl
  obtain ⟨l_n, hl5⟩ : ∃ l, (digs (A)).length = l := ⟨_, rfl⟩
  rw [hl5] at S5 ⊢
  have S_n := hid (S5)
  clear S5 B5
  clear R5 hl5
  go_wp2_with fail
  refine (same_n _ r_x r_n l_x c_x l_n c_n A A S_x.out S_n.out rfl).mono ?_
  rintro e wq ⟨rfl, nq, rfl⟩
  generalize hW6 : World.drewN W5 nq = W6
  have B6 : Below W5.heap.size W5 W6 := by rw [← hW6]; exact below_drewN' (Below.refl _ _) nq
  replace HB := hid (HB.out.trans (B6.mono HB.out.size))
  replace N_a := hid (N_a.out.below B6)
  replace HT := hid (HT.out.below B6)
  replace S_x := hid (S_x.out.below B6)
  replace S_n := hid (S_n.out.below B6)
  clear B6 hW6
  clear S_x S_n
  obtain ⟨V, hV⟩ : ∃ V, shlV A x1 = V := ⟨_, rfl⟩
  obtain ⟨E, hE⟩ : ∃ E, shlE A x1 = E := ⟨_, rfl⟩
  have SH := shl_num W6 p0 n0 c0 A x1 N_a.out (by omega) (by omega) (by omega)
  rw [hV, hE] at SH
  have HSH := hid SH
  clear SH hV hE
  go_wp2_with fail
  refine (HSH.out).mono ?_
  rintro e W7 ⟨r_l, c_l, rfl, T7, U7⟩
  have B7 := U7
  replace HB := hid (HB.out.trans (B7.mono HB.out.size))
  replace N_a := hid (N_a.out.below B7)
  replace HT := hid (HT.out.below B7)
  have S7 := T7
  obtain ⟨l_l, hl7⟩ : ∃ l, (digs (V)).length = l := ⟨_, rfl⟩
  rw [hl7] at S7 ⊢
  have S_l := hid (S7)
  clear S7 B7
  clear T7 U7 hl7
  have BT := bits_m W7 p0 n0 c0 A N_a.out (by omega)
  have HBT := hid BT
  clear BT
  obtain ⟨bl, hbl⟩ : ∃ bl, Go.bitLen A = bl := ⟨_, rfl⟩
  rw [hbl] at HBT hbits hbz
  clear hbl
  have hbl2 : (bl : Int) ≤ 9223372036854775807 := by omega
  go_wp2_with fail
  refine (HBT.out).mono ?_
  rintro e W8 ⟨rfl, rfl⟩
  go_wp2
  go_ret
  exact ⟨rfl, HB.out⟩

set_option maxHeartbeats 8000000 in
theorem there_s_nil (w : World) (p0 : Option Addr) (n0 c0 A : Nat) (x1 : Int) (s : ByteArray) (hs : (⟨(Lib.decDigits A).toArray⟩ : ByteArray) = s) (h0 : Num w p0 n0 c0 A) (b0 : n0 ≤ 1048576) (b1 : 0 ≤ x1 ∧ x1 ≤ 255) (ht : Tab w)
    (hs3 : s.size ≤ 9223372036854775807) (hsz : s.size ≤ 65536) (hbits : Go.bitLen A ≤ 1048320) (hA : A = 0) :
    Calls Tryd.prog 4 #[.slice p0 n0 c0, .int .u8 x1] w fun e w' => e = .returned (.bool true) ∧ Below w.heap.size w w' := by
  have HB := hid (Below.refl w.heap.size w)
  have N_a := hid h0
  have HT := hid ht
  have HS := hid hs
  have x0 : 0 ≤ x1 := b1.1
  have x2 : x1 ≤ 255 := b1.2
  clear h0 ht hs b1
  go_enter Tryd.func4, Tryd.ntmps4
  go_wp2_with fail
  refine (awake_c _).mono ?_
  rintro e W1 ⟨rfl, bel⟩
  have B1 : Below w.heap.size w W1 := bel
  replace HB := hid (HB.out.trans (B1.mono HB.out.size))
  replace N_a := hid (N_a.out.below B1)
  replace HT := hid (HT.out.below B1)
  clear B1
  clear bel
  go_wp2_with fail
  refine (text_n _ p0 n0 c0 A s HS.out N_a.out (by omega) HT.out).mono ?_
  rintro e W2 ⟨rfl, bel⟩
  have B2 : Below W1.heap.size W1 W2 := bel
  replace HB := hid (HB.out.trans (B2.mono HB.out.size))
  replace N_a := hid (N_a.out.below B2)
  replace HT := hid (HT.out.below B2)
  clear B2
  clear bel
  go_wp2_with fail
  refine (read_dec _ A s HS.out hsz).mono ?_
  rintro e W3 ⟨r_x, c_x, rfl, R3⟩
  have B3 := R3.below
  replace HB := hid (HB.out.trans (B3.mono HB.out.size))
  replace N_a := hid (N_a.out.below B3)
  replace HT := hid (HT.out.below B3)
  have S3 := R3.sl
  obtain ⟨l_x, hl3⟩ : ∃ l, (digs (A)).length = l := ⟨_, rfl⟩
  rw [hl3] at S3 ⊢
  have S_x := hid (S3)
  clear S3 B3
  clear R3 hl3
  go_wp2_with fail
  refine (text_n _ p0 n0 c0 A s HS.out N_a.out (by omega) HT.out).mono ?_
  rintro e W4 ⟨rfl, bel⟩
  have B4 : Below W3.heap.size W3 W4 := bel
  replace HB := hid (HB.out.trans (B4.mono HB.out.size))
  replace N_a := hid (N_a.out.below B4)
  replace HT := hid (HT.out.below B4)
  replace S_x := hid (S_x.out.below B4)
  clear B4
  clear bel
  go_wp2_with fail
  refine (norm_n _ p0 n0 c0 A N_a.out 1048576 b0 (by omega)).mono ?_
  rintro e W5 ⟨r_n, c_n, rfl, R5, _⟩
  have B5 := R5.below
  replace HB := hid (HB.out.trans (B5.mono HB.out.size))
  replace N_a := hid (N_a.out.below B5)
  replace HT := hid (HT.out.below B5)
  replace S_x := hid (S_x.out.below B5)
  have S5 := R5.sl
  obtain ⟨l_n, hl5⟩ : ∃ l, (digs (A)).length = l := ⟨_, rfl⟩
  rw [hl5] at S5 ⊢
  have S_n := hid (S5)
  clear S5 B5
  clear R5 hl5
  go_wp2_with fail
  refine (same_n _ r_x r_n l_x c_x l_n c_n A A S_x.out S_n.out rfl).mono ?_
  rintro e wq ⟨rfl, nq, rfl⟩
  generalize hW6 : World.drewN W5 nq = W6
  have B6 : Below W5.heap.size W5 W6 := by rw [← hW6]; exact below_drewN' (Below.refl _ _) nq
  replace HB := hid (HB.out.trans (B6.mono HB.out.size))
  replace N_a := hid (N_a.out.below B6)
  replace HT := hid (HT.out.below B6)
  replace S_x := hid (S_x.out.below B6)
  replace S_n := hid (S_n.out.below B6)
  clear B6 hW6
  clear S_x S_n
  obtain ⟨x, hx⟩ : ∃ x : Nat, x1 = x := ⟨x1.toNat, by omega⟩
  subst hx
  have eV : shlV A (x : Int) = A * 2 ^ x := by unfold shlV; rw [if_neg (by omega), if_pos hA, hA, Nat.zero_mul]
  have eE : shlE A (x : Int) = 0 := by unfold shlE; rw [if_neg (by omega), if_pos hA]
  have eV2 : shrV (A * 2 ^ x) (x : Int) = A := by
    unfold shrV
    rw [if_neg (by omega), Int.toNat_natCast, Nat.mul_div_cancel _ (Nat.pow_pos (by omega))]
  have eE2 : shrE (x : Int) = 0 := by unfold shrE; rw [if_neg (by omega)]
  have SH := shl_num W6 p0 n0 c0 A x N_a.out (by omega) (by omega) (by omega)
  rw [eV, eE] at SH
  obtain ⟨V, hV⟩ : ∃ V, A * 2 ^ x = V := ⟨_, rfl⟩
  rw [hV] at SH eV2
  have HV := hid hV
  have HE2 := hid (And.intro eV2 eE2)
  have HSH := hid SH
  clear SH hV eV eE eV2 eE2
  go_wp2_with fail
  refine (HSH.out).mono ?_
  rintro e W7 ⟨r_l, c_l, rfl, T7, U7⟩
  have B7 := U7
  replace HB := hid (HB.out.trans (B7.mono HB.out.size))
  replace N_a := hid (N_a.out.below B7)
  replace HT := hid (HT.out.below B7)
  have S7 := T7
  obtain ⟨l_l, hl7⟩ : ∃ l, (digs (V)).length = l := ⟨_, rfl⟩
  rw [hl7] at S7 ⊢
  have S_l := hid (S7)
  clear S7 B7
  have y_l : l_l ≤ 1048584 := by
    rw [← hl7, ← HV.out]
    refine Nat.le_trans (digs_mul_len (k := 1048576) (l := 8) (Nat.le_trans N_a.out.dl b0) ?_) (by omega)
    apply digs_length_le
    have : 2 ^ x ≤ 2 ^ 255 := Nat.pow_le_pow_right (by omega) (by omega)
    exact Nat.lt_of_le_of_lt this (by decide)
  clear T7 U7 hl7
  have BT := bits_m W7 p0 n0 c0 A N_a.out (by omega)
  obtain ⟨bl, hbl⟩ : ∃ bl, Go.bitLen A = bl := ⟨_, rfl⟩
  rw [hbl] at BT hbits
  have HBL := hid hbl
  have HBT := hid BT
  clear BT
  have hb0 : bl = 0 := by rw [← hbl]; exact (bl_zero A).2 hA
  subst hb0
  clear hbl
  go_wp2_with fail
  refine (HBT.out).mono ?_
  rintro e W8 ⟨rfl, rfl⟩
  have SR := shr_num W8 r_l l_l c_l V x S_l.out.numd (by omega) (by omega) (by omega)
  rw [HE2.out.1, HE2.out.2] at SR
  have HSR := hid SR
  clear SR
  go_wp2_with fail
  refine (HSR.out).mono ?_
  rintro e W9 ⟨r_r, c_r, rfl, T9, U9⟩
  have B9 := U9
  replace HB := hid (HB.out.trans (B9.mono HB.out.size))
  replace N_a := hid (N_a.out.below B9)
  replace HT := hid (HT.out.below B9)
  replace S_l := hid (S_l.out.below B9)
  have S9 := T9
  obtain ⟨l_r, hl9⟩ : ∃ l, (digs (A)).length = l := ⟨_, rfl⟩
  rw [hl9] at S9 ⊢
  have S_r := hid (S9)
  clear S9 B9
  clear T9 U9 hl9
  go_wp2_with fail
  refine (norm_n _ p0 n0 c0 A N_a.out 1048576 b0 (by omega)).mono ?_
  rintro e W10 ⟨r_m, c_m, rfl, R10, _⟩
  have B10 := R10.below
  replace HB := hid (HB.out.trans (B10.mono HB.out.size))
  replace N_a := hid (N_a.out.below B10)
  replace HT := hid (HT.out.below B10)
  replace S_l := hid (S_l.out.below B10)
  replace S_r := hid (S_r.out.below B10)
  have S10 := R10.sl
  obtain ⟨l_m, hl10⟩ : ∃ l, (digs (A)).length = l := ⟨_, rfl⟩
  rw [hl10] at S10 ⊢
  have S_m := hid (S10)
  clear S10 B10
  clear R10 hl10
  go_wp2_with fail
  refine (same_n _ r_r r_m l_r c_r l_m c_m A A S_r.out S_m.out rfl).mono ?_
  rintro e wq ⟨rfl, nq, rfl⟩
  generalize hW11 : World.drewN W10 nq = W11
  have B11 : Below W10.heap.size W10 W11 := by rw [← hW11]; exact below_drewN' (Below.refl _ _) nq
  replace HB := hid (HB.out.trans (B11.mono HB.out.size))
  replace N_a := hid (N_a.out.below B11)
  replace HT := hid (HT.out.below B11)
  replace S_l := hid (S_l.out.below B11)
  replace S_r := hid (S_r.out.below B11)
  replace S_m := hid (S_m.out.below B11)
  clear B11 hW11
  have BT := bits_m W11 p0 n0 c0 A N_a.out (by omega)
  rw [HBL.out] at BT
  have HBT2 := hid BT
  clear BT
  go_wp2_with fail
  refine (HBT2.out).mono ?_
  rintro e W12 ⟨rfl, rfl⟩
  go_wp2
  go_ret
  exact ⟨rfl, HB.out⟩

set_option maxHeartbeats 8000000 in
theorem there_s_some (w : World) (p0 : Option Addr) (n0 c0 A : Nat) (x1 : Int) (s : ByteArray) (hs : (⟨(Lib.decDigits A).toArray⟩ : ByteArray) = s) (h0 : Num w p0 n0 c0 A) (b0 : n0 ≤ 1048576) (b1 : 0 ≤ x1 ∧ x1 ≤ 255) (ht : Tab w)
    (hs3 : s.size ≤ 9223372036854775807) (hsz : s.size ≤ 65536) (hbits : Go.bitLen A ≤ 1048320) (hA : A ≠ 0) :
    Calls Tryd.prog 4 #[.slice p0 n0 c0, .int .u8 x1] w fun e w' => e = .returned (.bool true) ∧ Below w.heap.size w w' := by
  have HB := hid (Below.refl w.heap.size w)
  have N_a := hid h0
  have HT := hid ht
  have HS := hid hs
  have x0 : 0 ≤ x1 := b1.1
  have x2 : x1 ≤ 255 := b1.2
  clear h0 ht hs b1
  go_enter Tryd.func4, Tryd.ntmps4
  go_wp2_with fail
  refine (awake_c _).mono ?_
  rintro e W1 ⟨rfl, bel⟩
  have B1 : Below w.heap.size w W1 := bel
  replace HB := hid (HB.out.trans (B1.mono HB.out.size))
  replace N_a := hid (N_a.out.below B1)
  replace HT := hid (HT.out.below B1)
  clear B1
  clear bel
  go_wp2_with fail
  refine (text_n _ p0 n0 c0 A s HS.out N_a.out (by omega) HT.out).mono ?_
  rintro e W2 ⟨rfl, bel⟩
  have B2 : Below W1.heap.size W1 W2 := bel
  replace HB := hid (HB.out.trans (B2.mono HB.out.size))
  replace N_a := hid (N_a.out.below B2)
  replace HT := hid (HT.out.below B2)
  clear B2
  clear bel
  go_wp2_with fail
  refine (read_dec _ A s HS.out hsz).mono ?_
  rintro e W3 ⟨r_x, c_x, rfl, R3⟩
  have B3 := R3.below
  replace HB := hid (HB.out.trans (B3.mono HB.out.size))
  replace N_a := hid (N_a.out.below B3)
  replace HT := hid (HT.out.below B3)
  have S3 := R3.sl
  obtain ⟨l_x, hl3⟩ : ∃ l, (digs (A)).length = l := ⟨_, rfl⟩
  rw [hl3] at S3 ⊢
  have S_x := hid (S3)
  clear S3 B3
  clear R3 hl3
  go_wp2_with fail
  refine (text_n _ p0 n0 c0 A s HS.out N_a.out (by omega) HT.out).mono ?_
  rintro e W4 ⟨rfl, bel⟩
  have B4 : Below W3.heap.size W3 W4 := bel
  replace HB := hid (HB.out.trans (B4.mono HB.out.size))
  replace N_a := hid (N_a.out.below B4)
  replace HT := hid (HT.out.below B4)
  replace S_x := hid (S_x.out.below B4)
  clear B4
  clear bel
  go_wp2_with fail
  refine (norm_n _ p0 n0 c0 A N_a.out 1048576 b0 (by omega)).mono ?_
  rintro e W5 ⟨r_n, c_n, rfl, R5, _⟩
  have B5 := R5.below
  replace HB := hid (HB.out.trans (B5.mono HB.out.size))
  replace N_a := hid (N_a.out.below B5)
  replace HT := hid (HT.out.below B5)
  replace S_x := hid (S_x.out.below B5)
  have S5 := R5.sl
  obtain ⟨l_n, hl5⟩ : ∃ l, (digs (A)).length = l := ⟨_, rfl⟩
  rw [hl5] at S5 ⊢
  have S_n := hid (S5)
  clear S5 B5
  clear R5 hl5
  go_wp2_with fail
  refine (same_n _ r_x r_n l_x c_x l_n c_n A A S_x.out S_n.out rfl).mono ?_
  rintro e wq ⟨rfl, nq, rfl⟩
  generalize hW6 : World.drewN W5 nq = W6
  have B6 : Below W5.heap.size W5 W6 := by rw [← hW6]; exact below_drewN' (Below.refl _ _) nq
  replace HB := hid (HB.out.trans (B6.mono HB.out.size))
  replace N_a := hid (N_a.out.below B6)
  replace HT := hid (HT.out.below B6)
  replace S_x := hid (S_x.out.below B6)
  replace S_n := hid (S_n.out.below B6)
  clear B6 hW6
  clear S_x S_n
  obtain ⟨x, hx⟩ : ∃ x : Nat, x1 = x := ⟨x1.toNat, by omega⟩
  subst hx
  have eV : shlV A (x : Int) = A * 2 ^ x := by unfold shlV; rw [if_neg (by omega), if_neg hA, if_neg (by omega), Int.toNat_natCast]
  have eE : shlE A (x : Int) = 0 := by unfold shlE; rw [if_neg (by omega), if_neg hA, if_neg (by omega)]
  have eV2 : shrV (A * 2 ^ x) (x : Int) = A := by
    unfold shrV
    rw [if_neg (by omega), Int.toNat_natCast, Nat.mul_div_cancel _ (Nat.pow_pos (by omega))]
  have eE2 : shrE (x : Int) = 0 := by unfold shrE; rw [if_neg (by omega)]
  have SH := shl_num W6 p0 n0 c0 A x N_a.out (by omega) (by omega) (by omega)
  rw [eV, eE] at SH
  obtain ⟨V, hV⟩ : ∃ V, A * 2 ^ x = V := ⟨_, rfl⟩
  rw [hV] at SH eV2
  have HV := hid hV
  have HE2 := hid (And.intro eV2 eE2)
  have HSH := hid SH
  clear SH hV eV eE eV2 eE2
  go_wp2_with fail
  refine (HSH.out).mono ?_
  rintro e W7 ⟨r_l, c_l, rfl, T7, U7⟩
  have B7 := U7
  replace HB := hid (HB.out.trans (B7.mono HB.out.size))
  replace N_a := hid (N_a.out.below B7)
  replace HT := hid (HT.out.below B7)
  have S7 := T7
  obtain ⟨l_l, hl7⟩ : ∃ l, (digs (V)).length = l := ⟨_, rfl⟩
  rw [hl7] at S7 ⊢
  have S_l := hid (S7)
  clear S7 B7
  have y_l : l_l ≤ 1048584 := by
    rw [← hl7, ← HV.out]
    refine Nat.le_trans (digs_mul_len (k := 1048576) (l := 8) (Nat.le_trans N_a.out.dl b0) ?_) (by omega)
    apply digs_length_le
    have : 2 ^ x ≤ 2 ^ 255 := Nat.pow_le_pow_right (by omega) (by omega)
    exact Nat.lt_of_le_of_lt this (by decide)
  clear T7 U7 hl7
  have BT := bits_m W7 p0 n0 c0 A N_a.out (by omega)
  obtain ⟨bl, hbl⟩ : ∃ bl, Go.bitLen A = bl := ⟨_, rfl⟩
  rw [hbl] at BT hbits
  have HBL := hid hbl
  have HBT := hid BT
  clear BT
  have hb0 : bl ≠ 0 := by rw [← hbl]; exact fun e => hA ((bl_zero A).1 e)
  have hbz : ((bl : Int) == 0) = false := beq_eq_false_iff_ne.2 (by omega)
  clear hbl
  go_wp2_with fail
  refine (HBT.out).mono ?_
  rintro e W8 ⟨rfl, rfl⟩
  have SR := shr_num W8 r_l l_l c_l V x S_l.out.numd (by omega) (by omega) (by omega)
  rw [HE2.out.1, HE2.out.2] at SR
  have HSR := hid SR
  clear SR
  go_wp2_with fail
  refine (HSR.out).mono ?_
  rintro e W9 ⟨r_r, c_r, rfl, T9, U9⟩
  have B9 := U9
  replace HB := hid (HB.out.trans (B9.mono HB.out.size))
  replace N_a := hid (N_a.out.below B9)
  replace HT := hid (HT.out.below B9)
  replace S_l := hid (S_l.out.below B9)
  have S9 := T9
  obtain ⟨l_r, hl9⟩ : ∃ l, (digs (A)).length = l := ⟨_, rfl⟩
  rw [hl9] at S9 ⊢
  have S_r := hid (S9)
  clear S9 B9
  clear T9 U9 hl9
  go_wp2_with fail
  refine (norm_n _ p0 n0 c0 A N_a.out 1048576 b0 (by omega)).mono ?_
  rintro e W10 ⟨r_m, c_m, rfl, R10, _⟩
  have B10 := R10.below
  replace HB := hid (HB.out.trans (B10.mono HB.out.size))
  replace N_a := hid (N_a.out.below B10)
  replace HT := hid (HT.out.below B10)
  replace S_l := hid (S_l.out.below B10)
  replace S_r := hid (S_r.out.below B10)
  have S10 := R10.sl
  obtain ⟨l_m, hl10⟩ : ∃ l, (digs (A)).length = l := ⟨_, rfl⟩
  rw [hl10] at S10 ⊢
  have S_m := hid (S10)
  clear S10 B10
  clear R10 hl10
  go_wp2_with fail
  refine (same_n _ r_r r_m l_r c_r l_m c_m A A S_r.out S_m.out rfl).mono ?_
  rintro e wq ⟨rfl, nq, rfl⟩
  generalize hW11 : World.drewN W10 nq = W11
  have B11 : Below W10.heap.size W10 W11 := by rw [← hW11]; exact below_drewN' (Below.refl _ _) nq
  replace HB := hid (HB.out.trans (B11.mono HB.out.size))
  replace N_a := hid (N_a.out.below B11)
  replace HT := hid (HT.out.below B11)
  replace S_l := hid (S_l.out.below B11)
  replace S_r := hid (S_r.out.below B11)
  replace S_m := hid (S_m.out.below B11)
  clear B11 hW11
  have BT := bits_m W11 p0 n0 c0 A N_a.out (by omega)
  rw [HBL.out] at BT
  have HBT2 := hid BT
  clear BT
  go_wp2_with fail
  refine (HBT2.out).mono ?_
  rintro e W12 ⟨rfl, rfl⟩
  have BT := bits_m W12 r_l l_l c_l V S_l.out.numd (by omega)
  rw [← HV.out, bl_shift hA, HBL.out] at BT
  have BT2 := bits_m W12 p0 n0 c0 A N_a.out (by omega)
  rw [HBL.out] at BT2
  have HBT3 := hid BT
  have HBT4 := hid BT2
  clear BT BT2
  go_wp2_with fail
  refine (HBT3.out).mono ?_
  rintro e W13 ⟨rfl, rfl⟩
  go_wp2_with fail
  refine (HBT4.out).mono ?_
  rintro e W14 ⟨rfl, rfl⟩
  go_wp2
  go_ret
  exact ⟨rfl, HB.out⟩

set_option maxHeartbeats 8000000 in
theorem there_b_much (w : World) (p0 : Option Addr) (n0 c0 A : Nat) (x1 : Int) (s : ByteArray) (hs : (⟨(Lib.decDigits A).toArray⟩ : ByteArray) = s) (h0 : Num w p0 n0 c0 A) (b0 : n0 ≤ 1048576) (b1 : 0 ≤ x1 ∧ x1 ≤ 255) (ht : Tab w)
    (hs3 : s.size ≤ 9223372036854775807) (hsz : 65536 < s.size) (hbits : 1048320 < Go.bitLen A) (hbz : Go.bitLen A ≤ 33554432) :
    Calls Tryd.prog 4 #[.slice p0 n0 c0, .int .u8 x1] w fun e w' => e = .returned (.bool true) ∧ Below w.heap.size w w' := by
  have HB := hid (Below.refl w.heap.size w)
  have N_a := hid h0
  have HT := hid ht
  have HS := hid hs
  have x0 : 0 ≤ x1 := b1.1
  have x2 : x1 ≤ 255 := b1.2
  clear h0 ht hs b1
  go_enter Tryd.func4, Tryd.ntmps4
  go_wp2_with fail
  refine (awake_c _).mono ?_
  rintro e W1 ⟨rfl, bel⟩
  have B1 : Below w.heap.size w W1 := bel
  replace HB := hid (HB.out.trans (B1.mono HB.out.size))
  replace N_a := hid (N_a.out.below B1)
  replace HT := hid (HT.out.below B1)
  clear B1
  clear bel
  go_wp2_with fail
  refine (text_n _ p0 n0 c0 A s HS.out N_a.out (by omega) HT.out).mono ?_
  rintro e W2 ⟨rfl, bel⟩
  have B2 : Below W1.heap.size W1 W2 := bel
  replace HB := hid (HB.out.trans (B2.mono HB.out.size))
  replace N_a := hid (N_a.out.below B2)
  replace HT := hid (HT.out.below B2)
  clear B2
  clear bel
  go_wp2_with fail
  refine (read_long _ s hsz hs3).mono ?_
  rintro e W3 ⟨rfl, rfl⟩
  go_wp2_with fail
  refine (text_n _ p0 n0 c0 A s HS.out N_a.out (by omega) HT.out).mono ?_
  rintro e W4 ⟨rfl, bel⟩
  have B4 : Below W3.heap.size W3 W4 := bel
  replace HB := hid (HB.out.trans (B4.mono HB.out.size))
  replace N_a := hid (N_a.out.below B4)
  replace HT := hid (HT.out.below B4)
  clear B4
  clear bel
  obtain ⟨V, hV⟩ : ∃ V, shlV A x1 = V := ⟨_, rfl⟩
  obtain ⟨E, hE⟩ : ∃ E, shlE A x1 = E := ⟨_, rfl⟩
  have SH := shl_num W4 p0 n0 c0 A x1 N_a.out (by omega) (by omega) (by omega)
  rw [hV, hE] at SH
  have HSH := hid SH
  clear SH hV hE
  go_wp2_with fail
  refine (HSH.out).mono ?_
  rintro e W5 ⟨r_l, c_l, rfl, T5, U5⟩
  have B5 := U5
  replace HB := hid (HB.out.trans (B5.mono HB.out.size))
  replace N_a := hid (N_a.out.below B5)
  replace HT := hid (HT.out.below B5)
  have S5 := T5
  obtain ⟨l_l, hl5⟩ : ∃ l, (digs (V)).length = l := ⟨_, rfl⟩
  rw [hl5] at S5 ⊢
  have S_l := hid (S5)
  clear S5 B5
  clear T5 U5 hl5
  have BT := bits_m W5 p0 n0 c0 A N_a.out (by omega)
  have HBT := hid BT
  clear BT
  obtain ⟨bl, hbl⟩ : ∃ bl, Go.bitLen A = bl := ⟨_, rfl⟩
  rw [hbl] at HBT hbits hbz
  clear hbl
  have hbl2 : (bl : Int) ≤ 9223372036854775807 := by omega
  go_wp2_with fail
  refine (HBT.out).mono ?_
  rintro e W6 ⟨rfl, rfl⟩
  go_wp2
  go_ret
  exact ⟨rfl, HB.out⟩

set_option maxHeartbeats 8000000 in
theorem there_b_nil (w : World) (p0 : Option Addr) (n0 c0 A : Nat) (x1 : Int) (s : ByteArray) (hs : (⟨(Lib.decDigits A).toArray⟩ : ByteArray) = s) (h0 : Num w p0 n0 c0 A) (b0 : n0 ≤ 1048576) (b1 : 0 ≤ x1 ∧ x1 ≤ 255) (ht : Tab w)
    (hs3 : s.size ≤ 9223372036854775807) (hsz : 65536 < s.size) (hbits : Go.bitLen A ≤ 1048320) (hA : A = 0) :
    Calls Tryd.prog 4 #[.slice p0 n0 c0, .int .u8 x1] w fun e w' => e = .returned (.bool true) ∧ Below w.heap.size w w' := by
  have HB := hid (Below.refl w.heap.size w)
  have N_a := hid h0
  have HT := hid ht
  have HS := hid hs
  have x0 : 0 ≤ x1 := b1.1
  have x2 : x1 ≤ 255 := b1.2
  clear h0 ht hs b1
  go_enter Tryd.func4, Tryd.ntmps4
  go_wp2_with fail
  refine (awake_c _).mono ?_
  rintro e W1 ⟨rfl, bel⟩
  have B1 : Below w.heap.size w W1 := bel
  replace HB := hid (HB.out.trans (B1.mono HB.out.size))
  replace N_a := hid (N_a.out.below B1)
  replace HT := hid (HT.out.below B1)
  clear B1
  clear bel
  go_wp2_with fail
  refine (text_n _ p0 n0 c0 A s HS.out N_a.out (by omega) HT.out).mono ?_
  rintro e W2 ⟨rfl, bel⟩
  have B2 : Below W1.heap.size W1 W2 := bel
  replace HB := hid (HB.out.trans (B2.mono HB.out.size))
  replace N_a := hid (N_a.out.below B2)
  replace HT := hid (HT.out.below B2)
  clear B2
  clear bel
  go_wp2_with fail
  refine (read_long _ s hsz hs3).mono ?_
  rintro e W3 ⟨rfl, rfl⟩
  go_wp2_with fail
  refine (text_n _ p0 n0 c0 A s HS.out N_a.out (by omega) HT.out).mono ?_
  rintro e W4 ⟨rfl, bel⟩
  have B4 : Below W3.heap.size W3 W4 := bel
  replace HB := hid (HB.out.trans (B4.mono HB.out.size))
  replace N_a := hid (N_a.out.below B4)
  replace HT := hid (HT.out.below B4)
  clear B4
  clear bel
  obtain ⟨x, hx⟩ : ∃ x : Nat, x1 = x := ⟨x1.toNat, by omega⟩
  subst hx
  have eV : shlV A (x : Int) = A * 2 ^ x := by unfold shlV; rw [if_neg (by omega), if_pos hA, hA, Nat.zero_mul]
  have eE : shlE A (x : Int) = 0 := by unfold shlE; rw [if_neg (by omega), if_pos hA]
  have eV2 : shrV (A * 2 ^ x) (x : Int) = A := by
    unfold shrV
    rw [if_neg (by omega), Int.toNat_natCast, Nat.mul_div_cancel _ (Nat.pow_pos (by omega))]
  have eE2 : shrE (x : Int) = 0 := by unfold shrE; rw [if_neg (by omega)]
  have SH := shl_num W4 p0 n0 c0 A x N_a.out (by omega) (by omega) (by omega)
  rw [eV, eE] at SH
  obtain ⟨V, hV⟩ : ∃ V, A * 2 ^ x = V := ⟨_, rfl⟩
  rw [hV] at SH eV2
  have HV := hid hV
  have HE2 := hid (And.intro eV2 eE2)
  have HSH := hid SH
  clear SH hV eV eE eV2 eE2
  go_wp2_with fail
  refine (HSH.out).mono ?_
  rintro e W5 ⟨r_l, c_l, rfl, T5, U5⟩
  have B5 := U5
  replace HB := hid (HB.out.trans (B5.mono HB.out.size))
  replace N_a := hid (N_a.out.below B5)
  replace HT := hid (HT.out.below B5)
  have S5 := T5
  obtain ⟨l_l, hl5⟩ : ∃ l, (digs (V)).length = l := ⟨_, rfl⟩
  rw [hl5] at S5 ⊢
  have S_l := hid (S5)
  clear S5 B5
  have y_l : l_l ≤ 1048584 := by
    rw [← hl5, ← HV.out]
    refine Nat.le_trans (digs_mul_len (k := 1048576) (l := 8) (Nat.le_trans N_a.out.dl b0) ?_) (by omega)
    apply digs_length_le
    have : 2 ^ x ≤ 2 ^ 255 := Nat.pow_le_pow_right (by omega) (by omega)
    exact Nat.lt_of_le_of_lt this (by decide)
  clear T5 U5 hl5
  have BT := bits_m W5 p0 n0 c0 A N_a.out (by omega)
  obtain ⟨bl, hbl⟩ : ∃ bl, Go.bitLen A = bl := ⟨_, rfl⟩
  rw [hbl] at BT hbits
  have HBL := hid hbl
  have HBT := hid BT
  clear BT
  have hb0 : bl = 0 := by rw [← hbl]; exact (bl_zero A).2 hA
  subst hb0
  clear hbl
  go_wp2_with fail
  refine (HBT.out).mono ?_
  rintro e W6 ⟨rfl, rfl⟩
  have SR := shr_num W6 r_l l_l c_l V x S_l.out.numd (by omega) (by omega) (by omega)
  rw [HE2.out.1, HE2.out.2] at SR
  have HSR := hid SR
  clear SR
  go_wp2_with fail
  refine (HSR.out).mono ?_
  rintro e W7 ⟨r_r, c_r, rfl, T7, U7⟩
  have B7 := U7
  replace HB := hid (HB.out.trans (B7.mono HB.out.size))
  replace N_a := hid (N_a.out.below B7)
  replace HT := hid (HT.out.below B7)
  replace S_l := hid (S_l.out.below B7)
  have S7 := T7
  obtain ⟨l_r, hl7⟩ : ∃ l, (digs (A)).length = l := ⟨_, rfl⟩
  rw [hl7] at S7 ⊢
  have S_r := hid (S7)
  clear S7 B7
  clear T7 U7 hl7
  go_wp2_with fail
  refine (norm_n _ p0 n0 c0 A N_a.out 1048576 b0 (by omega)).mono ?_
  rintro e W8 ⟨r_m, c_m, rfl, R8, _⟩
  have B8 := R8.below
  replace HB := hid (HB.out.trans (B8.mono HB.out.size))
  replace N_a := hid (N_a.out.below B8)
  replace HT := hid (HT.out.below B8)
  replace S_l := hid (S_l.out.below B8)
  replace S_r := hid (S_r.out.below B8)
  have S8 := R8.sl
  obtain ⟨l_m, hl8⟩ : ∃ l, (digs (A)).length = l := ⟨_, rfl⟩
  rw [hl8] at S8 ⊢
  have S_m := hid (S8)
  clear S8 B8
  clear R8 hl8
  go_wp2_with fail
  refine (same_n _ r_r r_m l_r c_r l_m c_m A A S_r.out S_m.out rfl).mono ?_
  rintro e wq ⟨rfl, nq, rfl⟩
  generalize hW9 : World.drewN W8 nq = W9
  have B9 : Below W8.heap.size W8 W9 := by rw [← hW9]; exact below_drewN' (Below.refl _ _) nq
  replace HB := hid (HB.out.trans (B9.mono HB.out.size))
  replace N_a := hid (N_a.out.below B9)
  replace HT := hid (HT.out.below B9)
  replace S_l := hid (S_l.out.below B9)
  replace S_r := hid (S_r.out.below B9)
  replace S_m := hid (S_m.out.below B9)
  clear B9 hW9
  have BT := bits_m W9 p0 n0 c0 A N_a.out (by omega)
  rw [HBL.out] at BT
  have HBT2 := hid BT
  clear BT
  go_wp2_with fail
  refine (HBT2.out).mono ?_
  rintro e W10 ⟨rfl, rfl⟩
  go_wp2
  go_ret
  exact ⟨rfl, HB.out⟩

set_option maxHeartbeats 8000000 in
theorem there_b_some (w : World) (p0 : Option Addr) (n0 c0 A : Nat) (x1 : Int) (s : ByteArray) (hs : (⟨(Lib.decDigits A).toArray⟩ : ByteArray) = s) (h0 : Num w p0 n0 c0 A) (b0 : n0 ≤ 1048576) (b1 : 0 ≤ x1 ∧ x1 ≤ 255) (ht : Tab w)
    (hs3 : s.size ≤ 9223372036854775807) (hsz : 65536 < s.size) (hbits : Go.bitLen A ≤ 1048320) (hA : A ≠ 0) :
    Calls Tryd.prog 4 #[.slice p0 n0 c0, .int .u8 x1] w fun e w' => e = .returned (.bool true) ∧ Below w.heap.size w w' := by
  have HB := hid (Below.refl w.heap.size w)
  have N_a := hid h0
  have HT := hid ht
  have HS := hid hs
  have x0 : 0 ≤ x1 := b1.1
  have x2 : x1 ≤ 255 := b1.2
  clear h0 ht hs b1
  go_enter Tryd.func4, Tryd.ntmps4
  go_wp2_with fail
  refine (awake_c _).mono ?_
  rintro e W1 ⟨rfl, bel⟩
  have B1 : Below w.heap.size w W1 := bel
  replace HB := hid (HB.out.trans (B1.mono HB.out.size))
  replace N_a := hid (N_a.out.below B1)
  replace HT := hid (HT.out.below B1)
  clear B1
  clear bel
  go_wp2_with fail
  refine (text_n _ p0 n0 c0 A s HS.out N_a.out (by omega) HT.out).mono ?_
  rintro e W2 ⟨rfl, bel⟩
  have B2 : Below W1.heap.size W1 W2 := bel
  replace HB := hid (HB.out.trans (B2.mono HB.out.size))
  replace N_a := hid (N_a.out.below B2)
  replace HT := hid (HT.out.below B2)
  clear B2
  clear bel
  go_wp2_with fail
  refine (read_long _ s hsz hs3).mono ?_
  rintro e W3 ⟨rfl, rfl⟩
  go_wp2_with fail
  refine (text_n _ p0 n0 c0 A s HS.out N_a.out (by omega) HT.out).mono ?_
  rintro e W4 ⟨rfl, bel⟩
  have B4 : Below W3.heap.size W3 W4 := bel
  replace HB := hid (HB.out.trans (B4.mono HB.out.size))
  replace N_a := hid (N_a.out.below B4)
  replace HT := hid (HT.out.below B4)
  clear B4
  clear bel
  obtain ⟨x, hx⟩ : ∃ x : Nat, x1 = x := ⟨x1.toNat, by omega⟩
  subst hx
  have eV : shlV A (x : Int) = A * 2 ^ x := by unfold shlV; rw [if_neg (by omega), if_neg hA, if_neg (by omega), Int.toNat_natCast]
  have eE : shlE A (x : Int) = 0 := by unfold shlE; rw [if_neg (by omega), if_neg hA, if_neg (by omega)]
  have eV2 : shrV (A * 2 ^ x) (x : Int) = A := by
    unfold shrV
    rw [if_neg (by omega), Int.toNat_natCast, Nat.mul_div_cancel _ (Nat.pow_pos (by omega))]
  have eE2 : shrE (x : Int) = 0 := by unfold shrE; rw [if_neg (by omega)]
  have SH := shl_num W4 p0 n0 c0 A x N_a.out (by omega) (by omega) (by omega)
  rw [eV, eE] at SH
  obtain ⟨V, hV⟩ : ∃ V, A * 2 ^ x = V := ⟨_, rfl⟩
  rw [hV] at SH eV2
  have HV := hid hV
  have HE2 := hid (And.intro eV2 eE2)
  have HSH := hid SH
  clear SH hV eV eE eV2 eE2
  go_wp2_with fail
  refine (HSH.out).mono ?_
  rintro e W5 ⟨r_l, c_l, rfl, T5, U5⟩
  have B5 := U5
  replace HB := hid (HB.out.trans (B5.mono HB.out.size))
  replace N_a := hid (N_a.out.below B5)
  replace HT := hid (HT.out.below B5)
  have S5 := T5
  obtain ⟨l_l, hl5⟩ : ∃ l, (digs (V)).length = l := ⟨_, rfl⟩
  rw [hl5] at S5 ⊢
  have S_l := hid (S5)
  clear S5 B5
  have y_l : l_l ≤ 1048584 := by
    rw [← hl5, ← HV.out]
    refine Nat.le_trans (digs_mul_len (k := 1048576) (l := 8) (Nat.le_trans N_a.out.dl b0) ?_) (by omega)
    apply digs_length_le
    have : 2 ^ x ≤ 2 ^ 255 := Nat.pow_le_pow_right (by omega) (by omega)
    exact Nat.lt_of_le_of_lt this (by decide)
  clear T5 U5 hl5
  have BT := bits_m W5 p0 n0 c0 A N_a.out (by omega)
  obtain ⟨bl, hbl⟩ : ∃ bl, Go.bitLen A = bl := ⟨_, rfl⟩
  rw [hbl] at BT hbits
  have HBL := hid hbl
  have HBT := hid BT
  clear BT
  have hb0 : bl ≠ 0 := by rw [← hbl]; exact fun e => hA ((bl_zero A).1 e)
  have hbz : ((bl : Int) == 0) = false := beq_eq_false_iff_ne.2 (by omega)
  clear hbl
  go_wp2_with fail
  refine (HBT.out).mono ?_
  rintro e W6 ⟨rfl, rfl⟩
  have SR := shr_num W6 r_l l_l c_l V x S_l.out.numd (by omega) (by omega) (by omega)
  rw [HE2.out.1, HE2.out.2] at SR
  have HSR := hid SR
  clear SR
  go_wp2_with fail
  refine (HSR.out).mono ?_
  rintro e W7 ⟨r_r, c_r, rfl, T7, U7⟩
  have B7 := U7
  replace HB := hid (HB.out.trans (B7.mono HB.out.size))
  replace N_a := hid (N_a.out.below B7)
  replace HT := hid (HT.out.below B7)
  replace S_l := hid (S_l.out.below B7)
  have S7 := T7
  obtain ⟨l_r, hl7⟩ : ∃ l, (digs (A)).length = l := ⟨_, rfl⟩
  rw [hl7] at S7 ⊢
  have S_r := hid (S7)
  clear S7 B7
  clear T7 U7 hl7
  go_wp2_with fail
  refine (norm_n _ p0 n0 c0 A N_a.out 1048576 b0 (by omega)).mono ?_
  rintro e W8 ⟨r_m, c_m, rfl, R8, _⟩
  have B8 := R8.below
  replace HB := hid (HB.out.trans (B8.mono HB.out.size))
  replace N_a := hid (N_a.out.below B8)
  replace HT := hid (HT.out.below B8)
  replace S_l := hid (S_l.out.below B8)
  replace S_r := hid (S_r.out.below B8)
  have S8 := R8.sl
  obtain ⟨l_m, hl8⟩ : ∃ l, (digs (A)).length = l := ⟨_, rfl⟩
  rw [hl8] at S8 ⊢
  have S_m := hid (S8)
  clear S8 B8
  clear R8 hl8
  go_wp2_with fail
  refine (same_n _ r_r r_m l_r c_r l_m c_m A A S_r.out S_m.out rfl).mono ?_
  rintro e wq ⟨rfl, nq, rfl⟩
  generalize hW9 : World.drewN W8 nq = W9
  have B9 : Below W8.heap.size W8 W9 := by rw [← hW9]; exact below_drewN' (Below.refl _ _) nq
  replace HB := hid (HB.out.trans (B9.mono HB.out.size))
  replace N_a := hid (N_a.out.below B9)
  replace HT := hid (HT.out.below B9)
  replace S_l := hid (S_l.out.below B9)
  replace S_r := hid (S_r.out.below B9)
  replace S_m := hid (S_m.out.below B9)
  clear B9 hW9
  have BT := bits_m W9 p0 n0 c0 A N_a.out (by omega)
  rw [HBL.out] at BT
  have HBT2 := hid BT
  clear BT
  go_wp2_with fail
  refine (HBT2.out).mono ?_
  rintro e W10 ⟨rfl, rfl⟩
  have BT := bits_m W10 r_l l_l c_l V S_l.out.numd (by omega)
  rw [← HV.out, bl_shift hA, HBL.out] at BT
  have BT2 := bits_m W10 p0 n0 c0 A N_a.out (by omega)
  rw [HBL.out] at BT2
  have HBT3 := hid BT
  have HBT4 := hid BT2
  clear BT BT2
  go_wp2_with fail
  refine (HBT3.out).mono ?_
  rintro e W11 ⟨rfl, rfl⟩
  go_wp2_with fail
  refine (HBT4.out).mono ?_
  rintro e W12 ⟨rfl, rfl⟩
  go_wp2
  go_ret
  exact ⟨rfl, HB.out⟩

theorem there_walk (w : World) (p0 : Option Addr) (n0 c0 : Nat) (xs0 : List Nat) (x1 : Int) (h0 : Sl w p0 n0 c0 xs0) (b0 : c0 ≤ 1048576) (b1 : 0 ≤ x1 ∧ x1 ≤ 255) (ht : Tab w) :
    Calls Tryd.prog 4 #[.slice p0 n0 c0, .int .u8 x1] w fun e w' => e = .returned (.bool true) ∧ Below w.heap.size w w' := by
  have hn : n0 ≤ 1048576 := Nat.le_trans h0.cap b0
  have hbl : Go.bitLen (val xs0) ≤ 33554432 := by
    have := bl_len2 h0.dl
    omega
  obtain ⟨s, hs⟩ : ∃ s, (⟨(Lib.decDigits (val xs0)).toArray⟩ : ByteArray) = s := ⟨_, rfl⟩
  have hs3 : s.size ≤ 9223372036854775807 := by
    have h1 := dec_len (val xs0)
    have h2 : s.size = (Lib.decDigits (val xs0)).length := by rw [← hs]; simp [ByteArray.size]
    omega
  rcases Nat.lt_or_ge 65536 s.size with hz | hz
  · rcases Nat.lt_or_ge 1048320 (Go.bitLen (val xs0)) with hb | hb
    · exact there_b_much w p0 n0 c0 (val xs0) x1 s hs h0.num hn b1 ht hs3 hz hb hbl
    · by_cases hA : val xs0 = 0
      · exact there_b_nil w p0 n0 c0 (val xs0) x1 s hs h0.num hn b1 ht hs3 hz hb hA
      · exact there_b_some w p0 n0 c0 (val xs0) x1 s hs h0.num hn b1 ht hs3 hz hb hA
  · rcases Nat.lt_or_ge 1048320 (Go.bitLen (val xs0)) with hb | hb
    · exact there_s_much w p0 n0 c0 (val xs0) x1 s hs h0.num hn b1 ht hs3 hz hb hbl
    · by_cases hA : val xs0 = 0
      · exact there_s_nil w p0 n0 c0 (val xs0) x1 s hs h0.num hn b1 ht hs3 hz hb hA
      · exact there_s_some w p0 n0 c0 (val xs0) x1 s hs h0.num hn b1 ht hs3 hz hb hA
end Go.Proofs.YtnjepeijihmemaaDoor
