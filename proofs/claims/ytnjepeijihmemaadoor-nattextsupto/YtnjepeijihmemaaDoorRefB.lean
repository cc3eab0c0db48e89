/-
  The document's own answers: Cmp, Bits.
-/
import Derived.Test.YtnjepeijihmemaaDoorBits
namespace Go.Proofs.YtnjepeijihmemaaDoor
open Go.RowKit Nt
set_option linter.unusedSimpArgs false
set_option linter.unusedVariables false

/-- Limbs with noughts laid behind them. -/
def pad (xs : List Nat) (m : Nat) : List Nat := xs ++ List.replicate (m - xs.length) 0
theorem pad_length {xs : List Nat} {m : Nat} (h : xs.length ≤ m) : (pad xs m).length = m := by simp [pad]; omega
theorem pad_val (xs : List Nat) (m : Nat) : val (pad xs m) = val xs := by rw [pad, val_append, val_replicate]; simp
theorem pad_ok {xs : List Nat} (h : Ok xs) (m : Nat) : Ok (pad xs m) := h.append (Ok.replicate _)
theorem pad_get (xs : List Nat) (m j : Nat) : (pad xs m).getD j 0 = xs.getD j 0 := by
  unfold pad
  by_cases h : j < xs.length
  · simp [List.getD_eq_getElem?_getD, List.getElem?_append_left h]
  · rw [List.getD_eq_getElem?_getD, List.getD_eq_getElem?_getD, List.getElem?_append_right (by omega), List.getElem?_eq_none (by omega : xs.length ≤ j)]
    by_cases h2 : j - xs.length < m - xs.length
    · simp [List.getElem?_replicate, h2]
    · simp [List.getElem?_replicate, h2]

theorem cmp_pad {xs ys : List Nat} {m k : Nat} (hx : Ok xs) (lx : xs.length ≤ m) (ly : ys.length ≤ m) (hk : k < m)
    (he : ∀ j, k < j → j < m → xs.getD j 0 = ys.getD j 0) (hlt : xs.getD k 0 < ys.getD k 0) : val xs < val ys := by
  have := cmp_at (xs := pad xs m) (ys := pad ys m) (by rw [pad_length lx, pad_length ly]) (pad_ok hx m) (k := k) (by rw [pad_length lx]; exact hk)
    (fun j h1 h2 => by rw [pad_get, pad_get]; exact he j h1 (by rw [pad_length lx] at h2; exact h2)) (by rw [pad_get, pad_get]; exact hlt)
  rwa [pad_val, pad_val] at this
theorem same_pad {xs ys : List Nat} {m : Nat} (lx : xs.length ≤ m) (ly : ys.length ≤ m) (he : ∀ j, j < m → xs.getD j 0 = ys.getD j 0) : val xs = val ys := by
  have : pad xs m = pad ys m := by
    apply List.ext_getElem (by rw [pad_length lx, pad_length ly])
    intro i h1 h2
    have := he i (by rw [pad_length lx] at h1; exact h1)
    rw [← pad_get xs m, ← pad_get ys m] at this
    simpa [h1, h2] using this
  rw [← pad_val xs m, this, pad_val]

theorem bl_half {x : Nat} (h : x ≠ 0) : Go.bitLen x = Go.bitLen (x / 2) + 1 := by
  obtain ⟨s1, s2⟩ := bitLen_spec (x / 2)
  apply bl_unique
  · rw [Nat.pow_succ]; omega
  · intro _
    rw [Nat.add_sub_cancel]
    by_cases h0 : x / 2 = 0
    · rw [h0]; simp [Go.bitLen]; omega
    · have s3 := s2 h0
      have hb : Go.bitLen (x / 2) ≠ 0 := by intro e; rw [e] at s1; simp at s1; exact h0 (by omega)
      have e : Go.bitLen (x / 2) = (Go.bitLen (x / 2) - 1) + 1 := by omega
      rw [e, Nat.pow_succ]
      omega

end Go.Proofs.YtnjepeijihmemaaDoor
