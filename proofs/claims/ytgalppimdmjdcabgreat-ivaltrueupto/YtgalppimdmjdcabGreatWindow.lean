/-
  euclid.window, euclid.highest: the highest 64 bits.
-/
import Derived.Test.YtgalppimdmjdcabGreatSetJ
import Derived.Test.YtgalppimdmjdcabGreatSetK
namespace Go.Proofs.YtgalppimdmjdcabGreat
open Go.RowKit Nt
set_option linter.unusedSimpArgs false
set_option linter.unusedVariables false
set_option maxRecDepth 20000

theorem orP64 (l t P q : Nat) (hP : ∃ s, P = 2 ^ s) (ht : t < P) (hl : l = q * P) (hb : l + t < 18446744073709551616) : bits .or .u64 (l : Int) (t : Int) = ((l + t : Nat) : Int) := by
  obtain ⟨s, rfl⟩ := hP
  subst hl
  rw [u64_or_nat (q * 2 ^ s) t (by omega) (by omega)]
  have : q * 2 ^ s ||| t = q * 2 ^ s + t := by rw [← Nat.shiftLeft_eq, Nat.shiftLeft_add_eq_or_of_lt ht]
  rw [this]

set_option maxHeartbeats 1000000 in
theorem window_c (w : World) (p : Option Addr) (m c : Nat) (xs : List Nat) (n s d1 d2 d3 : Nat) (h : Sl w p m c xs) (hn : 3 ≤ n) (hn' : n ≤ 70368744177664) (hs : s < 32)
    (h1 : xs.getD (n - 1) 0 = d1) (h2 : xs.getD (n - 2) 0 = d2) (h3 : xs.getD (n - 3) 0 = d3) (hd : d1 * 2 ^ s < 4294967296) :
    Calls Tryz.prog 117 #[.slice p m c, .int .i64 n, .int .i64 s] w fun e w' => e = .returned (.int .u64 ((d1 * 4294967296 + d2) * 2 ^ s + d3 / 2 ^ (32 - s) : Nat)) ∧ ∃ nq, w' = w.drewN nq := by
  have L1 := limb_c w p m c xs h (n - 1) (by omega)
  have L2 := limb_c w p m c xs h (n - 2) (by omega)
  have L3 : ∀ k, Calls Tryz.prog 118 #[.slice p m c, .int .i64 (n - 3 : Nat)] (w.drewN k) fun e w' => e = .returned (.int .u32 (xs.getD (n - 3) 0 : Nat)) ∧ w' = w.drewN k := fun k => limb_c (w.drewN k) p m c xs (h.below (below_drewN' (Below.refl _ _) k)) (n - 3) (by omega)
  have b1 : d1 < 4294967296 := by rw [← h1]; exact h.ok.getD _
  have b2 : d2 < 4294967296 := by rw [← h2]; exact h.ok.getD _
  have b3 : d3 < 4294967296 := by rw [← h3]; exact h.ok.getD _
  rw [h1, show ((n - 1 : Nat) : Int) = (n : Int) - 1 from by omega] at L1
  rw [h2, show ((n - 2 : Nat) : Int) = (n : Int) - 1 - 1 from by omega] at L2
  rw [h3, show ((n - 3 : Nat) : Int) = (n : Int) - 3 from by omega] at L3
  obtain ⟨P, hP⟩ : ∃ P, 2 ^ s = P := ⟨_, rfl⟩
  obtain ⟨r, hr⟩ : ∃ r, 32 - s = r := ⟨_, rfl⟩
  obtain ⟨R, hR⟩ : ∃ R, 2 ^ r = R := ⟨_, rfl⟩
  obtain ⟨V, hV⟩ : ∃ V, d1 * 4294967296 + d2 = V := ⟨_, rfl⟩
  rw [hP] at hd
  rw [hr, hP, hR, hV]
  have hPi : (2 : Int) ^ s = (P : Int) := by rw [← hP]; simp
  have hRi : (2 : Int) ^ r = (R : Int) := by rw [← hR]; simp
  have hri : (32 : Int) - (s : Int) = (r : Int) := by omega
  have hrb : r ≤ 32 := by omega
  have hPR : P * R = 4294967296 := by rw [← hP, ← hR, ← Nat.pow_add, show s + r = 32 from by omega]
  have hP0 : 0 < P := by rw [← hP]; exact Nat.two_pow_pos s
  have hR0 : 0 < R := by rw [← hR]; exact Nat.two_pow_pos r
  have hVP : V * P + P ≤ 18446744073709551616 := by
    have e : P * R * P * R = 18446744073709551616 := by rw [Nat.mul_assoc, hPR]
    have h4 : d1 * P + P ≤ 4294967296 := by
      have hdR : d1 < R := by
        apply Nat.lt_of_mul_lt_mul_right (a := P)
        rw [Nat.mul_comm R P, hPR]; exact hd
      have := Nat.mul_le_mul_right P (show d1 + 1 ≤ R from hdR)
      rw [Nat.add_mul, Nat.one_mul, Nat.mul_comm R P, hPR] at this
      exact this
    have h5 : (V + 1) * P ≤ (d1 + 1) * 4294967296 * P := Nat.mul_le_mul_right P (by omega)
    have h6 : (d1 + 1) * 4294967296 * P = (d1 * P + P) * 4294967296 := by grind
    rw [h6, Nat.add_mul V 1 P, Nat.one_mul] at h5
    omega
  have hVP1 : (V : Int) * (P : Int) ≤ 18446744073709551615 := by rw [← Int.natCast_mul]; omega
  have hVP0 : 0 ≤ (V : Int) * (P : Int) := by rw [← Int.natCast_mul]; omega
  have HP := hid hP
  have HV := hid hV
  have HPR := hid hPR
  have HR := hid hR
  have HVP := hid hVP
  clear hPR hP hV hR hVP
  have H1 := hid L1
  have H2 := hid L2
  have H3 := hid L3
  clear L1 L2 L3 h1 h2 h3 h hr
  go_enter Tryz.func117, Tryz.ntmps117
  go_wp2_with fail
  go_loop [7, 9] (fun v i => (i = .int .i64 0 ∧ v = .int .u64 0) ∨ (i = .int .i64 1 ∧ v = .int .u64 d1) ∨ (i = .int .i64 2 ∧ v = .int .u64 V)) (fun _ i => 2 - (intOf i).toNat)
  case atStart => exact .inl ⟨rfl, rfl⟩
  case round =>
    rcases hrel with ⟨rfl, rfl⟩ | ⟨rfl, rfl⟩ | ⟨rfl, rfl⟩
    · go_wp2_with (first | (go_at_call_of 118 (Value.slice p m c); refine H1.out.mono ?_; rintro e w1 ⟨rfl, rfl⟩))
      exact ⟨.inr (.inl ⟨rfl, by rw [or64_zero _ b1]⟩), by simp [intOf]⟩
    · go_wp2_with (first | (go_at_call_of 118 (Value.slice p m c); refine H2.out.mono ?_; rintro e w1 ⟨rfl, rfl⟩))
      exact ⟨.inr (.inr ⟨rfl, by rw [or64' _ _ b2 b1, ← HV.out, Nat.add_comm, Nat.mul_comm]⟩), by simp [intOf]⟩
    · go_wp2_with fail
      go_quiet ((go_at_call 118; exact (H3.out _).mono (fun _ _ h => ⟨h.1, _, h.2⟩)))
      go_wp2
      go_ret
      have ht : d3 / R < P := by
        apply Nat.div_lt_of_lt_mul
        have := HPR.out
        rw [Nat.mul_comm R P]
        omega
      have hv := HVP.out
      refine ⟨?_, dr1 _ _⟩
      show Ending.returned (Value.int IntKind.u64 (bits BinOp.or IntKind.u64 ((V : Int) * (P : Int)) ((d3 : Int) / (R : Int)))) = _
      refine ret_int ?_
      rw [← Int.natCast_mul, ← Int.natCast_ediv]
      exact orP64 (V * P) (d3 / R) P V ⟨s, HP.out.symm⟩ ht rfl (by omega)
end Go.Proofs.YtgalppimdmjdcabGreat
