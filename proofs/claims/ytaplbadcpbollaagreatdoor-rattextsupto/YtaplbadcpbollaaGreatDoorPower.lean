/-
  nat.power, nat.Pow.
-/
import Derived.Test.YtaplbadcpbollaaGreatDoorSetK
import Derived.Test.YtaplbadcpbollaaGreatDoorSetC
namespace Go.Proofs.YtaplbadcpbollaaGreatDoor
open Go.RowKit Nt
set_option linter.unusedSimpArgs false
set_option linter.unusedVariables false
set_option maxRecDepth 20000

theorem len_c (w : World) (x : Nat) (hx : x < 18446744073709551616) :
    Calls Tryz.prog 108 #[.int .u64 x] w fun e w' => e = .returned (.int .i64 (Go.bitLen x : Nat)) ∧ w' = w := by
  have := Tryz.bits_Len (x : Int) w (by omega) (by omega)
  rw [Int.toNat_natCast, lib_bitLen hx] at this
  exact this

theorem and_one_i64 (y : Nat) (hy : y < 9223372036854775808) : bits .and .i64 (y : Int) 1 = ((y % 2 : Nat) : Int) := by
  have h1 : BitVec.ofInt 64 (y : Int) = BitVec.ofNat 64 y := by simp
  have h2 : BitVec.ofInt 64 (1 : Int) = BitVec.ofNat 64 1 := by rfl
  have e : ((BitVec.ofInt IntKind.i64.bits (y : Int)) &&& (BitVec.ofInt IntKind.i64.bits (1 : Int))).toNat = y % 2 := by
    show ((BitVec.ofInt 64 (y : Int)) &&& (BitVec.ofInt 64 (1 : Int))).toNat = y % 2
    rw [h1, h2, BitVec.toNat_and, BitVec.toNat_ofNat, BitVec.toNat_ofNat, Nat.mod_eq_of_lt (show y < 2 ^ 64 by omega), Nat.mod_eq_of_lt (show 1 < 2 ^ 64 by omega), Nat.and_one_is_mod]
  unfold bits
  simp only []
  rw [e, IntKind.wrap_i64]
  omega

/-- How many limbs a power has. -/
theorem pow_len {v e b M K : Nat} (hv : v < 2 ^ b) (hb : b * e ≤ M) (hM : M < 32 * K) : (digs (v ^ e)).length ≤ K := by
  apply digs_length_le
  have h1 : v ^ e ≤ (2 ^ b) ^ e := Nat.pow_le_pow_left (by omega) e
  rw [← Nat.pow_mul] at h1
  have h2 : 2 ^ (b * e) ≤ 2 ^ M := Nat.pow_le_pow_right (by omega) hb
  have h3 : (4294967296 : Nat) ^ K = 2 ^ (32 * K) := by rw [Nat.pow_mul]
  rw [h3]
  exact Nat.lt_of_le_of_lt (Nat.le_trans h1 h2) (Nat.pow_lt_pow_right (by omega) hM)

set_option maxHeartbeats 4000000 in
theorem power_c (w : World) (p : Option Addr) (n c : Nat) (xs : List Nat) (x : Nat) (h : Sl w p n c xs) (hn : n ≤ 1048576) (hx0 : 0 < x) (hx : x ≤ 1048576) (hb : Go.bitLen (val xs) * x ≤ 1048576) :
    Calls Tryz.prog 85 #[.slice p n c, .int .i64 x] w fun e w' => ∃ r cr, e = .returned (.slice r (digs (val xs ^ x)).length cr) ∧ Res w w' r cr (val xs ^ x) := by
  have HX := hid h
  have hm := h.max
  have hc := h.cap
  unfold maxLen at hm
  obtain ⟨last, hlast⟩ : ∃ last, Go.bitLen x = last + 1 := ⟨Go.bitLen x - 1, by
    have := bl_half (x := x) (by omega); omega⟩
  have hl32 : last ≤ 32 := by have := bl_le32 (x := x) (by omega); omega
  have L1 := len_c
  have HL : Hid (∀ W : World, Calls Tryz.prog 108 #[.int .u64 x] W fun e w' => e = .returned (.int .i64 ((last : Int) + 1)) ∧ w' = W) := by
    intro W
    have := len_c W x (by omega)
    rw [hlast] at this
    simpa using this
  obtain ⟨s1, s2⟩ := bitLen_spec x
  rw [hlast] at s1 s2
  have s3 := s2 (by omega)
  have HS := hid (And.intro s1 s3)
  have HBB := hid hb
  clear L1 h hlast s1 s2 s3 hb
  go_enter Tryz.func85, Tryz.ntmps85
  go_wp2_with fail
  refine (norm_n _ p n c (val xs) HX.out.num 1048576 hn (by omega)).mono ?_
  rintro e W1 ⟨r1, c1, rfl, R1, Z1⟩
  have HR1 := hid R1
  have HZ1 := hid Z1
  clear R1 Z1
  go_wp2_with fail
  refine (HL.out _).mono ?_
  rintro e W2 ⟨rfl, rfl⟩
  go_wp2_with fail
  go_loopw [5, 15] (fun v i wr => ∃ k : Nat, k ≤ last ∧ i = .int .i64 k ∧ ∃ r cr, v = .slice r (digs (val xs ^ (x / 2 ^ (last - k)))).length cr ∧ Hid (Res w wr r cr (val xs ^ (x / 2 ^ (last - k))))) (fun _ i _ => last - (intOf i).toNat)
  case atStart =>
    have hone : x / 2 ^ last = 1 := by
      obtain ⟨s1, s3⟩ := HS.out
      rw [Nat.add_sub_cancel] at s3
      rw [Nat.pow_succ] at s1
      exact Nat.div_eq_of_lt_le (by omega) (by omega)
    refine ⟨0, Nat.zero_le _, rfl, r1, c1, ?_, ?_⟩
    · rw [Nat.sub_zero, hone, Nat.pow_one]
    · rw [Nat.sub_zero, hone, Nat.pow_one]; exact HR1.out
  case round =>
    obtain ⟨k, hk, rfl, r, cr, rfl, HR⟩ := hrel
    by_cases hlt : k < last
    · obtain ⟨E, hE⟩ : ∃ E, x / 2 ^ (last - k) = E := ⟨_, rfl⟩
      rw [hE] at HR ⊢
      have hEx : E ≤ x := by rw [← hE]; exact Nat.div_le_self _ _
      have hlen : (digs (val xs ^ E)).length ≤ 32769 := pow_len (M := 1048576) (bitLen_spec (val xs)).1 (Nat.le_trans (Nat.mul_le_mul_left _ hEx) HBB.out) (by omega)
      have HE := hid hE
      have HLEN := hid hlen
      clear hE hlen
      go_wp2_with fail
      refine (mul_n _ r r _ cr _ cr (val xs ^ E) (val xs ^ E) HR.out.sl.numd HR.out.sl.numd 65538 (by have := HLEN.out; omega) (by omega)).mono ?_
      rintro e W3 ⟨r3, c3, rfl, R3, Z3⟩
      have HR3 := hid (R3.since HR.out.below)
      have HX3 := hid (HX.out.below HR3.out.below)
      have HZ3 := hid Z3
      clear R3 Z3
      have h2E : x / 2 ^ (last - 1 - k) = 2 * E + x / 2 ^ (last - 1 - k) % 2 := by
        have e2 : x / 2 ^ (last - k) = x / 2 ^ (last - 1 - k) / 2 := by
          rw [Nat.div_div_eq_div_mul, ← Nat.pow_succ, show (last - 1 - k).succ = last - k from by omega]
        rw [HE.out] at e2
        omega
      have hnext : last - (k + 1) = last - 1 - k := by omega
      obtain ⟨y, hy⟩ : ∃ y, x / 2 ^ (last - 1 - k) = y := ⟨_, rfl⟩
      have hyx : y ≤ x := by rw [← hy]; exact Nat.div_le_self _ _
      have hyi : (x : Int) / 2 ^ (last - 1 - k) = (y : Int) := by rw [← hy]; simp
      rw [hy] at h2E
      have hand : bits .and .i64 (y : Int) 1 = ((y % 2 : Nat) : Int) := and_one_i64 y (by omega)
      have HN := hid (show last - (k + 1) = last - 1 - k ∧ x / 2 ^ (last - 1 - k) = y ∧ y = 2 * E + y % 2 from ⟨hnext, hy, h2E⟩)
      clear hnext hy h2E
      by_cases hbit : y % 2 = 1
      · rw [hbit] at hand
        have hand' : bits .and .i64 (y : Int) 1 = 1 := by simpa using hand
        clear hand
        go_wp2_with fail
        refine (mul_n _ r3 p _ c3 n c (val xs ^ E * val xs ^ E) (val xs) HR3.out.sl.numd HX3.out.num 2097152 (by have := HZ3.out; omega) (by omega)).mono ?_
        rintro e W4 ⟨r4, c4, rfl, R4, Z4⟩
        have HR4 := hid (R4.since HR3.out.below)
        clear R4 Z4
        go_wp2
        go_roundw
        case rel =>
          obtain ⟨g1, g2, g3⟩ := HN.out
          have ev : val xs ^ E * val xs ^ E * val xs = val xs ^ (x / 2 ^ (last - (k + 1))) := by
            rw [g1, g2, g3, hbit, ← Nat.pow_add, ← Nat.pow_succ]
            congr 1
            omega
          refine ⟨k + 1, by omega, by go_num, r4, c4, by rw [ev], ?_⟩
          rw [← ev]
          exact HR4.out
        case measure => simp [intOf]; omega
      · have hbit0 : y % 2 = 0 := by omega
        rw [hbit0] at hand
        have hand' : bits .and .i64 (y : Int) 1 = 0 := by simpa using hand
        clear hand
        go_wp2
        go_roundw
        case rel =>
          obtain ⟨g1, g2, g3⟩ := HN.out
          have ev : val xs ^ E * val xs ^ E = val xs ^ (x / 2 ^ (last - (k + 1))) := by
            rw [g1, g2, g3, hbit0, ← Nat.pow_add]
            congr 1
            omega
          refine ⟨k + 1, by omega, by go_num, r3, c3, by rw [ev], ?_⟩
          rw [← ev]
          exact HR3.out
        case measure => simp [intOf]; omega
    · go_wp2
      go_ret
      have hkl : last - k = 0 := by omega
      have e1 : x / 2 ^ (last - k) = x := by rw [hkl]; simp
      rw [e1] at HR
      exact ⟨r, cr, by rw [e1]; rfl, HR.out⟩

theorem bl_le_one {v : Nat} : Go.bitLen v ≤ 1 ↔ v ≤ 1 := by
  obtain ⟨s1, s2⟩ := bitLen_spec v
  constructor
  · intro h
    have : 2 ^ Go.bitLen v ≤ 2 ^ 1 := Nat.pow_le_pow_right (by omega) h
    omega
  · intro h
    apply Classical.byContradiction
    intro hc
    have h0 : v ≠ 0 := by intro e; subst e; simp [Go.bitLen] at hc
    have := s2 h0
    have h3 : 2 ^ 1 ≤ 2 ^ (Go.bitLen v - 1) := Nat.pow_le_pow_right (by omega) (by omega)
    omega
end Go.Proofs.YtaplbadcpbollaaGreatDoor
