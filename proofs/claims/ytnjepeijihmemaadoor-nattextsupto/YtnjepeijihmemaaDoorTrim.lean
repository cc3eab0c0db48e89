/-
  nat.trim: the slice without the noughts at its end; the memory stays.
-/
import Derived.Test.YtnjepeijihmemaaDoorBase
namespace Go.Proofs.YtnjepeijihmemaaDoor
open Go.RowKit Nt
set_option linter.unusedSimpArgs false
set_option linter.unusedVariables false

set_option maxHeartbeats 400000 in
theorem trim_c (w : World) (p : Option Addr) (n c : Nat) (xs : List Nat) (hn : xs.length = n) (hc : n ≤ c) (hm : c ≤ maxLen) (ho : Ok xs) (hx : Limbs w p xs) :
    Calls Tryd.prog 18 #[.slice p n c] w fun e w' => e = .returned (.slice p (digs (val xs)).length c) ∧ w' = w := by
  unfold maxLen at hm
  have HX : Hid (Limbs w p xs) := hx
  have HN : Hid (xs.length = n) := hn
  have HO : Hid (Ok xs) := ho
  clear hx hn ho
  go_enter Tryd.func18, Tryd.ntmps18
  go_wp2
  go_loop [3] (fun i => ∃ k : Nat, k ≤ n ∧ i = .int .i64 k ∧ Hid (∀ j, k ≤ j → j < n → xs.getD j 0 = 0)) (fun i => (intOf i).toNat)
  case atStart => exact ⟨n, Nat.le_refl _, rfl, fun j h1 h2 => by omega⟩
  case round =>
    obtain ⟨k, hk, rfl, HZ⟩ := hrel
    by_cases hlt : 0 < k
    · obtain ⟨b, o, rfl, hcell⟩ := HX.out (k - 1) (by have := HN.out; omega)
      by_cases h0 : xs.getD (k - 1) 0 = 0
      · have hcell' := hcell
        rw [h0] at hcell'
        have H0 : Hid (xs.getD (k - 1) 0 = 0) := h0
        clear h0 hcell
        go_wp2
        go_round
        case rel =>
          refine ⟨k - 1, by omega, by go_num, ?_⟩
          intro j h1 h2
          by_cases e : j = k - 1
          · rw [e]; exact H0.out
          · exact HZ.out j (by omega) h2
        case measure => simp [intOf]; omega
      · obtain ⟨x, hx⟩ : ∃ x, x = xs.getD (k - 1) 0 := ⟨_, rfl⟩
        have H0 : Hid (xs.getD (k - 1) 0 ≠ 0) := h0
        rw [← hx] at hcell h0
        have hb : ((x : Int) == 0) = false := beq_eq_false_iff_ne.2 (by omega)
        clear h0 hx
        go_wp2
        go_ret
        have hl : k = (digs (val xs)).length := by
          have := take_digs HO.out (k := k) (by rw [HN.out]; exact hk) (by rw [HN.out]; exact HZ.out) (Or.inr H0.out)
          rw [← this]; simp [HN.out]; omega
        exact ⟨ret_slice (by simp [Addr.add]) hl rfl, rfl⟩
    · go_wp2
      go_ret
      have hl : k = (digs (val xs)).length := by
        have := take_digs HO.out (k := k) (by rw [HN.out]; exact hk) (by rw [HN.out]; exact HZ.out) (Or.inl (by omega))
        rw [← this]; simp [HN.out]; omega
      exact ⟨ret_slice (by simp [Addr.add]) hl rfl, rfl⟩

theorem trim_k (w : World) (p : Option Addr) (n c k : Nat) (xs : List Nat) (hk : (digs (val xs)).length = k) (hn : xs.length = n) (hc : n ≤ c) (hm : c ≤ maxLen) (ho : Ok xs) (hx : Limbs w p xs) :
    Calls Tryd.prog 18 #[.slice p n c] w fun e w' => e = .returned (.slice p k c) ∧ w' = w := by
  subst hk
  exact trim_c w p n c xs hn hc hm ho hx
end Go.Proofs.YtnjepeijihmemaaDoor
