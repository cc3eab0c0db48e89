import Derived.Test.YtoeopdmaogmjhaaSetA
/-
 The small calls of package euclid: trim, limb.
-/
namespace Go.Proofs.Ytoeopdmaogmjhaa
open Go.RowKit Nt
set_option linter.unusedSimpArgs false
set_option linter.unusedVariables false
set_option maxRecDepth 20000

set_option maxHeartbeats 400000 in
theorem etrim_c (w : World) (p : Option Addr) (n c : Nat) (xs : List Nat) (hn : xs.length = n) (hc : n ≤ c) (hm : c ≤ maxLen) (ho : Ok xs) (hx : Limbs w p xs) :
    Calls Try.prog 95 #[.slice p n c] w fun e w' => e = .returned (.slice p (digs (val xs)).length c) ∧ w' = w := by
  unfold maxLen at hm
  have HX : Hid (Limbs w p xs) := hx
  have HN : Hid (xs.length = n) := hn
  have HO : Hid (Ok xs) := ho
  clear hx hn ho
  go_enter Try.func95, Try.ntmps95
  go_wp2
  go_loop [3] (fun i => ∃ k : Nat, k ≤ n ∧ i = .int .i64 k ∧ Hid (∀ j, k ≤ j → j < n → xs.getD j 0 = 0)) (fun i => (intOf i).toNat)
  case atStart => exact ⟨n, Nat.le_refl _, rfl, fun j h1 h2 => by omega⟩
  case round =>
    obtain ⟨k, hk, rfl, HZ⟩ := hrel
    by_cases hlt : 0 < k
    · obtain ⟨b, o, rfl, hcell⟩ := HX.out (k - 1) (by have := HN.out; omega)
      by_cases h0 : xs.getD (k - 1) 0 = 0
      · have hcell' := hcell
        rw [h0] at hcell'
        have H0 : Hid (xs.getD (k - 1) 0 = 0) := h0
        clear h0 hcell
        go_wp2
        go_round
        case rel =>
          refine ⟨k - 1, by omega, by go_num, ?_⟩
          intro j h1 h2
          by_cases e : j = k - 1
          · rw [e]; exact H0.out
          · exact HZ.out j (by omega) h2
        case measure => simp [intOf]; omega
      · obtain ⟨x, hx⟩ : ∃ x, x = xs.getD (k - 1) 0 := ⟨_, rfl⟩
        have H0 : Hid (xs.getD (k - 1) 0 ≠ 0) := h0
        rw [← hx] at hcell h0
        have hb : ((x : Int) == 0) = false := beq_eq_false_iff_ne.2 (by omega)
        clear h0 hx
        go_wp2
        go_ret
        have hl : k = (digs (val xs)).length := by
          have := take_digs HO.out (k := k) (by rw [HN.out]; exact hk) (by rw [HN.out]; exact HZ.out) (Or.inr H0.out)
          rw [← this]; simp [HN.out]; omega
        exact ⟨ret_slice (by simp [Addr.add]) hl rfl, rfl⟩
    · go_wp2
      go_ret
      have hl : k = (digs (val xs)).length := by
        have := take_digs HO.out (k := k) (by rw [HN.out]; exact hk) (by rw [HN.out]; exact HZ.out) (Or.inl (by omega))
        rw [← this]; simp [HN.out]; omega
      exact ⟨ret_slice (by simp [Addr.add]) hl rfl, rfl⟩

theorem etrim_k (w : World) (p : Option Addr) (n c k : Nat) (xs : List Nat) (hk : (digs (val xs)).length = k) (hn : xs.length = n) (hc : n ≤ c) (hm : c ≤ maxLen) (ho : Ok xs) (hx : Limbs w p xs) :
  Calls Try.prog 95 #[.slice p n c] w fun e w' => e = .returned (.slice p k c) ∧ w' = w := by
 subst hk
 exact etrim_c w p n c xs hn hc hm ho hx

/-- A limb; beyond the end 0. -/
theorem limb_c (w : World) (p : Option Addr) (n c : Nat) (xs : List Nat) (h : Sl w p n c xs) (i : Nat) (hi : i ≤ 9223372036854775807) :
    Calls Try.prog 94 #[.slice p n c, .int .i64 i] w fun e w' => e = .returned (.int .u32 (xs.getD i 0 : Nat)) ∧ w' = w := by
  by_cases hlt : i < n
  · obtain ⟨b, o, rfl, hcell⟩ := h.lie i (by rw [h.len]; exact hlt)
    have hc := h.cap
    have hm := h.max
    unfold maxLen at hm
    generalize xs.getD i 0 = x at *
    clear h
    go_enter Try.func94, Try.ntmps94
    go_wp2
    go_ret
    exact ⟨rfl, rfl⟩
  · have h0 : xs.getD i 0 = 0 := by rw [List.getD_eq_getElem?_getD, List.getElem?_eq_none (by rw [h.len]; omega)]; rfl
    rw [h0]
    have hm := h.max
    have hc := h.cap
    unfold maxLen at hm
    clear h h0
    go_enter Try.func94, Try.ntmps94
    go_wp2
    go_ret
    exact ⟨rfl, rfl⟩
end Go.Proofs.Ytoeopdmaogmjhaa

/-
 nat.gcdWords: Euclid's rest by rest, of words.
-/
namespace Go.Proofs.Ytoeopdmaogmjhaa
open Go.RowKit Nt
set_option linter.unusedSimpArgs false
set_option linter.unusedVariables false
set_option maxRecDepth 20000

set_option maxHeartbeats 1000000 in
theorem gcdWords_c (w : World) (a b : Nat) (ha : a < 18446744073709551616) (hb : b < 18446744073709551616) :
    Calls Try.prog 79 #[.int .u64 a, .int .u64 b] w fun e w' => e = .returned (.int .u64 (Nat.gcd a b : Nat)) ∧ ∃ nq, w' = w.drewN nq := by
  go_enter Try.func79, Try.ntmps79
  go_wp2
  go_loopw [0, 1] (fun xv yv wr => ∃ x y : Nat, (∃ nq, wr = w.drewN nq) ∧ xv = .int .u64 x ∧ yv = .int .u64 y ∧ x < 18446744073709551616 ∧ y < 18446744073709551616 ∧ Hid (Nat.gcd x y = Nat.gcd a b)) (fun _ yv _ => (intOf yv).toNat)
  case atStart => exact ⟨a, b, dr0 _, rfl, rfl, ha, hb, rfl⟩
  case round =>
    obtain ⟨x, y, ⟨nq, rfl⟩, rfl, rfl, hx, hy, HG⟩ := hrel
    by_cases h0 : y = 0
    · subst h0
      go_wp2
      go_ret
      have := HG.out
      rw [Nat.gcd_zero_right] at this
      rw [← this]
      exact ⟨rfl, dr1 _ _⟩
    · have hp : 1 ≤ y := by omega
      clear h0
      have hm : x % y < y := Nat.mod_lt _ (by omega)
      go_wp2_with fail
      go_quiet (fail)
      go_wp2
      go_roundw
      case rel =>
        refine ⟨y, x % y, dr2 _ _ _, rfl, ?_, hy, by omega, ?_⟩
        · go_num
        · rw [← HG.out, Nat.gcd_comm y, ← Nat.gcd_rec, Nat.gcd_comm]; exact rfl
      case measure => simp [intOf]; omega
end Go.Proofs.Ytoeopdmaogmjhaa
