/-
  Small: a number as an int64, zint's.
-/
import Derived.Test.YtoplejeljmpcpaaDoorSetE
import Derived.Test.YtoplejeljmpcpaaDoorSetK
namespace Go.Proofs.YtoplejeljmpcpaaDoor
open Go.RowKit Nt
set_option linter.unusedSimpArgs false
set_option linter.unusedVariables false
set_option maxRecDepth 20000

/-- Is it an int64? -/
def smK (z : Int) : Bool := decide (-9223372036854775808 ≤ z ∧ z < 9223372036854775808)
/-- The int64, or 0. -/
def smV (z : Int) : Int := if smK z then z else 0
theorem sm_yes {z : Int} (h1 : -9223372036854775808 ≤ z) (h2 : z < 9223372036854775808) : smK z = true ∧ smV z = z := by
  have : smK z = true := by unfold smK; simp [h1, h2]
  exact ⟨this, by unfold smV; rw [this]; rfl⟩
theorem sm_no {z : Int} (h : z < -9223372036854775808 ∨ 9223372036854775808 ≤ z) : smK z = false ∧ smV z = 0 := by
  have : smK z = false := by unfold smK; simp; omega
  exact ⟨this, by unfold smV; rw [this]; rfl⟩

theorem zbits_c (w : World) (s : Bool) (p : Option Addr) (n c : Nat) (xs : List Nat) (h : Sl w p n c xs) (hs : n ≤ 70368744177664) :
    Calls Tryd.prog 12 #[.agg #[.bool s, .slice p n c]] w fun e w' => e = .returned (.int .i64 (Go.bitLen (val xs) : Nat)) ∧ Below w.heap.size w w' := by
  obtain ⟨W, g, hg, hW, c10, c11, HB⟩ := enter1b w s p n c
  have HN := hid (bits_c W p n c xs (h.below HB.out) (by omega))
  clear h
  go_enter Tryd.func12, Tryd.ntmps12
  go_wp2_with fail
  refine HN.out.mono ?_
  rintro e w' ⟨rfl, rfl⟩
  go_wp2
  go_ret
  exact ⟨rfl, HB.out⟩

set_option maxHeartbeats 1000000 in
/-- word, of at most two limbs ahead of the noughts. -/
theorem zword_c (w : World) (p : Option Addr) (n c : Nat) (xs : List Nat) (h : Sl w p n c xs) (hs : n ≤ 70368744177664) (hl : (digs (val xs)).length ≤ 2) :
    Calls Tryd.prog 41 #[.slice p n c] w fun e w' => e = .returned (.int .u64 (val xs : Nat)) ∧ w' = w := by
  have HX := hid h
  have hm := h.max
  have hc := h.cap
  have hdl := h.dl
  have N := zlength_c w p n c xs h hs
  have htk : xs.take (digs (val xs)).length = digs (val xs) := take_digs_val h.ok
  obtain ⟨L, hL⟩ : ∃ L, (digs (val xs)).length = L := ⟨_, rfl⟩
  rw [hL] at N hdl hl htk
  have HN := hid N
  have HT := hid htk
  unfold maxLen at hm
  clear h N hL htk
  go_enter Tryd.func41, Tryd.ntmps41
  go_wp2_with fail
  refine HN.out.mono ?_
  rintro e w' ⟨rfl, rfl⟩
  go_wp2
  go_loop [3, 7] (fun v i => ∃ (k y : Nat), k ≤ L ∧ i = .int .i64 k ∧ v = .int .u64 y ∧ Hid (y = val (xs.take k))) (fun _ i => L - (intOf i).toNat)
  case atStart => exact ⟨0, 0, by omega, rfl, rfl, by simp [Hid, val]⟩
  case round =>
    obtain ⟨k, y, hk, rfl, rfl, HY⟩ := hrel
    by_cases hlt : k < L
    · have hlt' : k < n := by omega
      obtain ⟨b, o, rfl, hcell⟩ := HX.out.lie k (by rw [HX.out.len]; exact hlt')
      obtain ⟨x, hx⟩ : ∃ x, xs.getD k 0 = x := ⟨_, rfl⟩
      rw [hx] at hcell
      have hxb : x < 4294967296 := by rw [← hx]; exact HX.out.ok.getD k
      have HXK := hid hx
      have hst := val_take_succ xs k (by rw [HX.out.len]; exact hlt')
      rw [hx] at hst
      have HST := hid hst
      clear hx hst
      by_cases hk0 : k = 0
      · subst hk0
        have hy0 : y = 0 := by rw [HY.out]; simp [val]
        subst hy0
        simp only [Nat.add_zero] at hcell
        go_wp2
        go_round
        case rel =>
          refine ⟨1, x, by omega, rfl, ?_, ?_⟩
          · rw [or64_zero x hxb]
          · have := HST.out; simp [val] at this; simp [Hid]; omega
        case measure => simp [intOf]; omega
      · have hk1 : k = 1 := by omega
        subst hk1
        have hyb : y < 4294967296 := by
          rw [HY.out]
          have := val_lt (HX.out.ok.take 1)
          have e : (xs.take 1).length = 1 := by simp [HX.out.len]; omega
          rw [e] at this
          simpa using this
        go_wp2
        go_round
        case rel =>
          refine ⟨2, y + 4294967296 * x, by omega, rfl, ?_, ?_⟩
          · rw [or64 y x hyb hxb]
          · have := HST.out; rw [← HY.out] at this; simp [Hid]; simpa using this.symm
        case measure => simp [intOf]; omega
    · obtain rfl : k = L := by omega
      go_wp2
      go_ret
      refine ⟨ret_int ?_, rfl⟩
      rw [HY.out, HT.out, val_digs]

theorem bitLen_big {v : Nat} (h : 64 < Go.bitLen v) : 18446744073709551616 ≤ v := by
  obtain ⟨s1, s2⟩ := bitLen_spec v
  have h0 : v ≠ 0 := fun e => by rw [e, show Go.bitLen 0 = 0 from rfl] at h; omega
  have := s2 h0
  have h2 : 2 ^ 64 ≤ 2 ^ (Go.bitLen v - 1) := Nat.pow_le_pow_right (by omega) (by omega)
  omega
theorem bitLen_small {v : Nat} (h : ¬ 64 < Go.bitLen v) : v < 18446744073709551616 := by
  obtain ⟨s1, s2⟩ := bitLen_spec v
  have h2 : 2 ^ Go.bitLen v ≤ 2 ^ 64 := Nat.pow_le_pow_right (by omega) (by omega)
  omega

end Go.Proofs.YtoplejeljmpcpaaDoor
