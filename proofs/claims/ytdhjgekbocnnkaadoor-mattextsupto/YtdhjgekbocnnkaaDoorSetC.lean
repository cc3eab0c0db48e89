import Derived.Test.YtdhjgekbocnnkaaDoorBits
import Derived.Test.YtdhjgekbocnnkaaDoorSetA
/-
  The document's own answers: Cmp, Bits.
-/
namespace Go.Proofs.YtdhjgekbocnnkaaDoor
open Go.RowKit Nt
set_option linter.unusedSimpArgs false
set_option linter.unusedVariables false
set_option maxRecDepth 20000

/-- Limbs with noughts laid behind them. -/
def pad (xs : List Nat) (m : Nat) : List Nat := xs ++ List.replicate (m - xs.length) 0
theorem pad_length {xs : List Nat} {m : Nat} (h : xs.length ≤ m) : (pad xs m).length = m := by simp [pad]; omega
theorem pad_val (xs : List Nat) (m : Nat) : val (pad xs m) = val xs := by rw [pad, val_append, val_replicate]; simp
theorem pad_ok {xs : List Nat} (h : Ok xs) (m : Nat) : Ok (pad xs m) := h.append (Ok.replicate _)
theorem pad_get (xs : List Nat) (m j : Nat) : (pad xs m).getD j 0 = xs.getD j 0 := by
  unfold pad
  by_cases h : j < xs.length
  · simp [List.getD_eq_getElem?_getD, List.getElem?_append_left h]
  · rw [List.getD_eq_getElem?_getD, List.getD_eq_getElem?_getD, List.getElem?_append_right (by omega), List.getElem?_eq_none (by omega : xs.length ≤ j)]
    by_cases h2 : j - xs.length < m - xs.length
    · simp [List.getElem?_replicate, h2]
    · simp [List.getElem?_replicate, h2]

theorem cmp_pad {xs ys : List Nat} {m k : Nat} (hx : Ok xs) (lx : xs.length ≤ m) (ly : ys.length ≤ m) (hk : k < m)
    (he : ∀ j, k < j → j < m → xs.getD j 0 = ys.getD j 0) (hlt : xs.getD k 0 < ys.getD k 0) : val xs < val ys := by
  have := cmp_at (xs := pad xs m) (ys := pad ys m) (by rw [pad_length lx, pad_length ly]) (pad_ok hx m) (k := k) (by rw [pad_length lx]; exact hk)
    (fun j h1 h2 => by rw [pad_get, pad_get]; exact he j h1 (by rw [pad_length lx] at h2; exact h2)) (by rw [pad_get, pad_get]; exact hlt)
  rwa [pad_val, pad_val] at this
theorem same_pad {xs ys : List Nat} {m : Nat} (lx : xs.length ≤ m) (ly : ys.length ≤ m) (he : ∀ j, j < m → xs.getD j 0 = ys.getD j 0) : val xs = val ys := by
  have : pad xs m = pad ys m := by
    apply List.ext_getElem (by rw [pad_length lx, pad_length ly])
    intro i h1 h2
    have := he i (by rw [pad_length lx] at h1; exact h1)
    rw [← pad_get xs m, ← pad_get ys m] at this
    simpa [h1, h2] using this
  rw [← pad_val xs m, this, pad_val]

theorem bl_half {x : Nat} (h : x ≠ 0) : Go.bitLen x = Go.bitLen (x / 2) + 1 := by
  obtain ⟨s1, s2⟩ := bitLen_spec (x / 2)
  apply bl_unique
  · rw [Nat.pow_succ]; omega
  · intro _
    rw [Nat.add_sub_cancel]
    by_cases h0 : x / 2 = 0
    · rw [h0]; simp [Go.bitLen]; omega
    · have s3 := s2 h0
      have hb : Go.bitLen (x / 2) ≠ 0 := by intro e; rw [e] at s1; simp at s1; exact h0 (by omega)
      have e : Go.bitLen (x / 2) = (Go.bitLen (x / 2) - 1) + 1 := by omega
      rw [e, Nat.pow_succ]
      omega

end Go.Proofs.YtdhjgekbocnnkaaDoor

/-
  The document's own answers: Add, less, Sub.
-/
namespace Go.Proofs.YtdhjgekbocnnkaaDoor
open Go.RowKit Nt
set_option linter.unusedSimpArgs false
set_option linter.unusedVariables false
set_option maxRecDepth 20000

theorem getD_take_step (xs : List Nat) (k : Nat) : val (xs.take (k + 1)) = val (xs.take k) + 4294967296 ^ k * xs.getD k 0 := by
  by_cases h : k < xs.length
  · exact val_take_succ xs k h
  · rw [List.take_of_length_le (by omega), List.take_of_length_le (by omega), List.getD_eq_getElem?_getD, List.getElem?_eq_none (by omega)]
    simp

theorem take_val {ys : List Nat} {n : Nat} (h : val ys < 4294967296 ^ n) : val (ys.take n) = val ys := by
  by_cases hn : n ≤ ys.length
  · have e := val_split ys n hn
    have hz : val (ys.drop n) = 0 := by
      apply Classical.byContradiction
      intro hne
      have : 4294967296 ^ n * 1 ≤ 4294967296 ^ n * val (ys.drop n) := Nat.mul_le_mul_left _ (by omega)
      omega
    rw [hz, Nat.mul_zero, Nat.add_zero] at e
    exact e.symm
  · rw [List.take_of_length_le (by omega)]

theorem sub_below (w : World) (p q : Option Addr) (n c m d : Nat) (xs ys : List Nat) (h : Sl w p n c xs) (h' : Sl w q m d ys) (hlt : val xs < val ys) :
    Calls Tryd.prog 99 #[.slice p n c, .slice q m d] w fun e w' => e = .returned (.tuple #[.slice none 0 0, .int .i64 10]) ∧ ∃ nq, w' = w.drewN nq := by
  have C := cmp_s w p q n c m d xs ys h h'
  have e : cmpN (val xs) (val ys) = -1 := by simp [cmpN, hlt]
  rw [e] at C
  have HC := hid C
  clear C e h h' hlt
  go_enter Tryd.func99, Tryd.ntmps99
  go_wp2_with fail
  refine HC.out.mono ?_
  rintro e w' ⟨rfl, nq, rfl⟩
  go_wp2
  go_ret2
  exact ⟨rfl, dr1 _ _⟩
end Go.Proofs.YtdhjgekbocnnkaaDoor

/-
  The document's own answer: Mul.
-/
namespace Go.Proofs.YtdhjgekbocnnkaaDoor
open Go.RowKit Nt
set_option linter.unusedSimpArgs false
set_option linter.unusedVariables false
set_option maxRecDepth 20000

/-- One row of the product more (as in nat.Mul). -/
theorem rmul_step {A B R mid' : List Nat} {k lb cy a : Nat} (hk : k < A.length) (hR : R.length = k + lb) (ha : A.getD k 0 = a) (hm : mid'.length = lb)
    (hv : val R = val (A.take k) * val B) (hz : val mid' + 4294967296 ^ lb * cy = val (R.drop k) + val B * a) : val (R.take k ++ mid' ++ [cy]) = val (A.take (k + 1)) * val B := by
  have e1 := val_split R k (by omega)
  have e2 : (R.take k).length = k := by simp; omega
  rw [val_take_succ A k hk, ha, Nat.add_mul, ← hv, e1, val_append, val_append, val_one, List.length_append, e2, hm, Nat.pow_add]
  have h2 : 4294967296 ^ k * (val mid' + 4294967296 ^ lb * cy) = 4294967296 ^ k * (val (R.drop k) + val B * a) := by rw [hz]
  rw [Nat.mul_add, Nat.mul_add, ← Nat.mul_assoc] at h2
  have h3 : 4294967296 ^ k * a * val B = 4294967296 ^ k * (val B * a) := by rw [Nat.mul_assoc, Nat.mul_comm a]
  rw [h3]
  omega

end Go.Proofs.YtdhjgekbocnnkaaDoor
