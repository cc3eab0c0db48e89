/-
 nat.Bits, and the document's.
-/
import Derived.Test.YthmccopeigpelaaGreatShelf
import Derived.Test.YthmccopeigpelaaGreatSetD
import Derived.Laws.MathBits
import Derived.Lib.BitFns
namespace Go.Proofs.YthmccopeigpelaaGreat
open Go.RowKit Nt
set_option linter.unusedSimpArgs false
set_option linter.unusedVariables false
set_option maxRecDepth 20000

theorem bl_unique {n k : Nat} (h1 : n < 2 ^ k) (h2 : k ≠ 0 → 2 ^ (k - 1) ≤ n) : Go.bitLen n = k := by
 obtain ⟨s1, s2⟩ := bitLen_spec n
 by_cases h0 : n = 0
 ·subst h0
  have : k = 0 := by
   apply Classical.byContradiction
   intro hk
   have := h2 hk
   have := Nat.two_pow_pos (k - 1)
   omega
  rw [this]; rfl
 have hk : k ≠ 0 := by intro e; subst e; simp at h1; exact h0 h1
 have h3 := h2 hk
 have h4 := s2 h0
 have hb : Go.bitLen n ≠ 0 := by intro e; rw [e] at s1; simp at s1; exact h0 s1
 have a1 : k - 1 < Go.bitLen n := (Nat.pow_lt_pow_iff_right (a := 2) (by omega)).1 (Nat.lt_of_le_of_lt h3 s1)
 have a2 : Go.bitLen n - 1 < k := (Nat.pow_lt_pow_iff_right (a := 2) (by omega)).1 (Nat.lt_of_le_of_lt h4 h1)
 omega

theorem bla_spec : ∀ (f x : Nat), x < 2 ^ f → x < 2 ^ Lib.bitLenAux f x ∧ (Lib.bitLenAux f x ≠ 0 → 2 ^ (Lib.bitLenAux f x - 1) ≤ x)
 | 0, x, h => by simp [Lib.bitLenAux] at *; exact h
 | f + 1, x, h => by
  unfold Lib.bitLenAux
  by_cases h0 : x = 0
  ·simp [h0]
  ·simp only [h0, if_false]
   have ih := bla_spec f (x / 2) (by rw [Nat.pow_succ] at h; omega)
   obtain ⟨i1, i2⟩ := ih
   generalize Lib.bitLenAux f (x / 2) = k at *
   refine ⟨?_, fun _ => ?_⟩
   ·rw [Nat.add_comm, Nat.pow_succ]; omega
   ·rw [Nat.add_sub_cancel_left]
    by_cases hk : k = 0
    ·subst hk; simp; omega
    ·have := i2 hk
     have e : k = (k - 1) + 1 := by omega
     rw [e, Nat.pow_succ]
     omega
theorem lib_bitLen {x : Nat} (h : x < 18446744073709551616) : Lib.bitLen x = Go.bitLen x := by
 have := bla_spec 64 x (by omega)
 exact (bl_unique this.1 this.2).symm

theorem len32_c (w : World) (x : Nat) (hx : x < 4294967296) :
  Calls Tryz.prog 45 #[.int .u32 x] w fun e w' => e = .returned (.int .i64 (Go.bitLen x : Nat)) ∧ w' = w := by
 have := Tryz.bits_Len32 (x : Int) w (by omega) (by omega)
 rw [Int.toNat_natCast, lib_bitLen (by omega)] at this
 exact this

theorem bl_le32 {x : Nat} (hx : x < 4294967296) : Go.bitLen x ≤ 32 := by
 apply Classical.byContradiction
 intro hc
 obtain ⟨s1, s2⟩ := bitLen_spec x
 have h0 : x ≠ 0 := by intro e; subst e; exact hc (by simp [Go.bitLen])
 have := s2 h0
 have h3 : 2 ^ 32 ≤ 2 ^ (Go.bitLen x - 1) := Nat.pow_le_pow_right (by omega) (by omega)
 omega

/-- The bits of a number by its highest limb. -/
theorem bl_top {xs : List Nat} {k t : Nat} (ho : Ok xs) (hk : k < xs.length) (hz : ∀ j, k < j → j < xs.length → xs.getD j 0 = 0) (ht : xs.getD k 0 = t) (h0 : t ≠ 0) : Go.bitLen (val xs) = 32 * k + Go.bitLen t := by
 have hv : val xs = val (xs.take k) + 4294967296 ^ k * t := by
  have e := val_split xs (k + 1) (by omega)
  have hd : xs.drop (k + 1) = List.replicate (xs.length - (k + 1)) 0 := by
   apply List.ext_getElem (by simp)
   intro i h1 h2
   simp only [List.getElem_drop, List.getElem_replicate]
   have hi : k + 1 + i < xs.length := by simp at h1; omega
   have := hz (k + 1 + i) (by omega) hi
   simpa [hi] using this
  rw [hd, val_replicate, Nat.mul_zero, Nat.add_zero, val_take_succ xs k hk, ht] at e
  exact e
 have hlow := val_lt (ho.take k)
 rw [List.length_take, Nat.min_eq_left (by omega)] at hlow
 have hp : (4294967296 : Nat) ^ k = 2 ^ (32 * k) := by rw [Nat.pow_mul]
 rw [hp] at hlow hv
 obtain ⟨s1, s2⟩ := bitLen_spec t
 have s3 := s2 h0
 have hb : Go.bitLen t ≠ 0 := by intro e; rw [e] at s1; simp at s1; exact h0 s1
 apply bl_unique
 ·rw [hv, Nat.pow_add]
  have : 2 ^ (32 * k) * (t + 1) ≤ 2 ^ (32 * k) * 2 ^ Go.bitLen t := Nat.mul_le_mul_left _ s1
  rw [Nat.mul_add] at this
  omega
 ·intro _
  rw [hv, show 32 * k + Go.bitLen t - 1 = 32 * k + (Go.bitLen t - 1) from by omega, Nat.pow_add]
  have : 2 ^ (32 * k) * 2 ^ (Go.bitLen t - 1) ≤ 2 ^ (32 * k) * t := Nat.mul_le_mul_left _ s3
  omega

theorem bits_c (w : World) (p : Option Addr) (n c : Nat) (xs : List Nat) (h : Sl w p n c xs) (hs : n ≤ 288230376151711743) :
    Calls Tryz.prog 29 #[.slice p n c] w fun e w' => e = .returned (.int .i64 (Go.bitLen (val xs) : Nat)) ∧ w' = w := by
  obtain ⟨k, hk⟩ : ∃ k, (digs (val xs)).length = k := ⟨_, rfl⟩
  have T := hid (trim_s w p n c k xs hk h)
  have S := h.digs
  rw [hk] at S
  have hkn : k ≤ n := by rw [← hk]; exact h.dl
  have HS := hid S
  have hm := h.max
  have hc := h.cap
  unfold maxLen at hm
  by_cases h0 : k = 0
  · have hv : val xs = 0 := (digs_length_zero _).1 (hk.trans h0)
    rw [hv]
    subst h0
    clear S h hk hv
    go_enter Tryz.func29, Tryz.ntmps29
    go_wp2_with fail
    refine T.out.mono ?_
    rintro e w' ⟨rfl, rfl⟩
    go_wp2
    go_ret
    exact ⟨rfl, rfl⟩
  · obtain ⟨b, o, hpb, hcell⟩ := S.lie (k - 1) (by rw [S.len]; omega)
    obtain ⟨t, ht⟩ : ∃ t, (digs (val xs)).getD (k - 1) 0 = t := ⟨_, rfl⟩
    rw [ht] at hcell
    have htb : t < 4294967296 := by rw [← ht]; exact (ok_digs _).getD _
    have ht0 : t ≠ 0 := by
      rcases top_digs (val xs) with e | e
      · rw [e] at hk; simp at hk; omega
      · rw [hk, ht] at e; exact e
    have hbl := bl_top (ok_digs (val xs)) (k := k - 1) (by rw [hk]; omega) (fun j h1 h2 => by rw [hk] at h2; omega) ht ht0
    rw [val_digs] at hbl
    have hbt := bl_le32 htb
    obtain ⟨bt, hbtq⟩ : ∃ bt, Go.bitLen t = bt := ⟨_, rfl⟩
    have L1 := hid (len32_c w t htb)
    rw [hbtq] at L1 hbl hbt
    rw [hbl]
    have hk0 : ((k : Int) == 0) = false := beq_eq_false_iff_ne.2 (by omega)
    subst hpb
    clear S h hk ht hbl hbtq ht0
    go_enter Tryz.func29, Tryz.ntmps29
    go_wp2_with fail
    refine T.out.mono ?_
    rintro e w' ⟨rfl, rfl⟩
    go_wp2_with fail
    refine L1.out.mono ?_
    rintro e w' ⟨rfl, rfl⟩
    go_wp2
    go_ret
    exact ⟨ret_int (by omega), rfl⟩
end Go.Proofs.YthmccopeigpelaaGreat
