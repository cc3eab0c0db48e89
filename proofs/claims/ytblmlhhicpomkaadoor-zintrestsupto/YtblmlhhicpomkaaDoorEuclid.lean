/-
  The small calls of package euclid: trim, limb.
-/
import Derived.Test.YtblmlhhicpomkaaDoorSetA
namespace Go.Proofs.YtblmlhhicpomkaaDoor
open Go.RowKit Nt
set_option linter.unusedSimpArgs false
set_option linter.unusedVariables false

set_option maxHeartbeats 400000 in
theorem etrim_c (w : World) (p : Option Addr) (n c : Nat) (xs : List Nat) (hn : xs.length = n) (hc : n ≤ c) (hm : c ≤ maxLen) (ho : Ok xs) (hx : Limbs w p xs) :
    Calls Tryd.prog 64 #[.slice p n c] w fun e w' => e = .returned (.slice p (digs (val xs)).length c) ∧ w' = w := by
  unfold maxLen at hm
  have HX : Hid (Limbs w p xs) := hx
  have HN : Hid (xs.length = n) := hn
  have HO : Hid (Ok xs) := ho
  clear hx hn ho
  go_enter Tryd.func64, Tryd.ntmps64
  go_wp2
  go_loop [3] (fun i => ∃ k : Nat, k ≤ n ∧ i = .int .i64 k ∧ Hid (∀ j, k ≤ j → j < n → xs.getD j 0 = 0)) (fun i => (intOf i).toNat)
  case atStart => exact ⟨n, Nat.le_refl _, rfl, fun j h1 h2 => by omega⟩
  case round =>
    obtain ⟨k, hk, rfl, HZ⟩ := hrel
    by_cases hlt : 0 < k
    · obtain ⟨b, o, rfl, hcell⟩ := HX.out (k - 1) (by have := HN.out; omega)
      by_cases h0 : xs.getD (k - 1) 0 = 0
      · have hcell' := hcell
        rw [h0] at hcell'
        have H0 : Hid (xs.getD (k - 1) 0 = 0) := h0
        clear h0 hcell
        go_wp2
        go_round
        case rel =>
          refine ⟨k - 1, by omega, by go_num, ?_⟩
          intro j h1 h2
          by_cases e : j = k - 1
          · rw [e]; exact H0.out
          · exact HZ.out j (by omega) h2
        case measure => simp [intOf]; omega
      · obtain ⟨x, hx⟩ : ∃ x, x = xs.getD (k - 1) 0 := ⟨_, rfl⟩
        have H0 : Hid (xs.getD (k - 1) 0 ≠ 0) := h0
        rw [← hx] at hcell h0
        have hb : ((x : Int) == 0) = false := beq_eq_false_iff_ne.2 (by omega)
        clear h0 hx
        go_wp2
        go_ret
        have hl : k = (digs (val xs)).length := by
          have := take_digs HO.out (k := k) (by rw [HN.out]; exact hk) (by rw [HN.out]; exact HZ.out) (Or.inr H0.out)
          rw [← this]; simp [HN.out]; omega
        exact ⟨ret_slice (by simp [Addr.add]) hl rfl, rfl⟩
    · go_wp2
      go_ret
      have hl : k = (digs (val xs)).length := by
        have := take_digs HO.out (k := k) (by rw [HN.out]; exact hk) (by rw [HN.out]; exact HZ.out) (Or.inl (by omega))
        rw [← this]; simp [HN.out]; omega
      exact ⟨ret_slice (by simp [Addr.add]) hl rfl, rfl⟩

theorem etrim_k (w : World) (p : Option Addr) (n c k : Nat) (xs : List Nat) (hk : (digs (val xs)).length = k) (hn : xs.length = n) (hc : n ≤ c) (hm : c ≤ maxLen) (ho : Ok xs) (hx : Limbs w p xs) :
    Calls Tryd.prog 64 #[.slice p n c] w fun e w' => e = .returned (.slice p k c) ∧ w' = w := by
  subst hk
  exact etrim_c w p n c xs hn hc hm ho hx

/-- A limb; beyond the end 0. -/
theorem limb_c (w : World) (p : Option Addr) (n c : Nat) (xs : List Nat) (h : Sl w p n c xs) (i : Nat) (hi : i ≤ 9223372036854775807) :
    Calls Tryd.prog 63 #[.slice p n c, .int .i64 i] w fun e w' => e = .returned (.int .u32 (xs.getD i 0 : Nat)) ∧ w' = w := by
  by_cases hlt : i < n
  · obtain ⟨b, o, rfl, hcell⟩ := h.lie i (by rw [h.len]; exact hlt)
    have hc := h.cap
    have hm := h.max
    unfold maxLen at hm
    generalize xs.getD i 0 = x at *
    clear h
    go_enter Tryd.func63, Tryd.ntmps63
    go_wp2
    go_ret
    exact ⟨rfl, rfl⟩
  · have h0 : xs.getD i 0 = 0 := by rw [List.getD_eq_getElem?_getD, List.getElem?_eq_none (by rw [h.len]; omega)]; rfl
    rw [h0]
    have hm := h.max
    have hc := h.cap
    unfold maxLen at hm
    clear h h0
    go_enter Tryd.func63, Tryd.ntmps63
    go_wp2
    go_ret
    exact ⟨rfl, rfl⟩
end Go.Proofs.YtblmlhhicpomkaaDoor
