/-
  zint.length, Form, Neg, Abs.
-/
import Derived.Test.YtnbmpldfbbidmaaZMade
import Derived.Test.YtnbmpldfbbidmaaBits
import Derived.Test.YtnbmpldfbbidmaaSetA
namespace Go.Proofs.Ytnbmpldfbbidmaa
open Go.RowKit Nt
set_option linter.unusedSimpArgs false
set_option linter.unusedVariables false

theorem bits_length (v : Nat) : (Go.bitLen v + 31) / 32 = (digs v).length := by
  by_cases h0 : v = 0
  · subst h0; rfl
  obtain ⟨s1, s2⟩ := bitLen_spec v
  have s3 := s2 h0
  obtain ⟨L, hL⟩ : ∃ L, (digs v).length = L := ⟨_, rfl⟩
  have h1 := lt_pow_digs v
  have h2 := pow_le_digs h0
  rw [hL] at h1 h2 ⊢
  have hL0 : L ≠ 0 := by intro e; rw [e] at hL; exact h0 ((digs_length_zero v).1 hL)
  have e1 : (4294967296 : Nat) ^ L = 2 ^ (32 * L) := by rw [Nat.pow_mul]
  have e2 : (4294967296 : Nat) ^ (L - 1) = 2 ^ (32 * (L - 1)) := by rw [Nat.pow_mul]
  rw [e1] at h1
  rw [e2] at h2
  have u1 : Go.bitLen v ≤ 32 * L := by
    apply Classical.byContradiction
    intro hc
    have : 2 ^ (32 * L) ≤ 2 ^ (Go.bitLen v - 1) := Nat.pow_le_pow_right (by omega) (by omega)
    omega
  have u2 : 32 * (L - 1) < Go.bitLen v := by
    apply Classical.byContradiction
    intro hc
    have : 2 ^ Go.bitLen v ≤ 2 ^ (32 * (L - 1)) := Nat.pow_le_pow_right (by omega) (by omega)
    omega
  omega

/-- 'copy' of the first limbs into a row of the call's own that is not longer. -/
theorem copy_short (W : World) (ty : TypeId) (g n nd c : Nat) (p : Option Addr) (xs zs : List Nat) (hl : xs.length = n) (hz : zs.length = nd) (hn : nd ≤ n) (hx : Limbs W p xs) (hg : Blk W g zs) (hc : p = none → c = 0) :
    (Builtin.copy_ #[23, 23] ty #[.slice (some ⟨g, 0, none⟩) nd nd, .slice p n c]).run Try.prog W = .ok (goInt nd) (W.setRow g (U (xs.take nd)).toArray) := by
  obtain ⟨i0, hi, hz0, hz1, hz2⟩ := info_parts infoU32
  have hs : (Try.prog.info? 30).map (·.size) = some 1 := by rw [hi]; simp [hz1]
  cases p with
  | none =>
    have h0 : n = 0 := by
      apply Classical.byContradiction
      intro h
      obtain ⟨b, o, e, _⟩ := hx 0 (by omega)
      cases e
    subst h0
    have hnd : nd = 0 := by omega
    subst hnd
    have hxs : xs = [] := List.length_eq_zero_iff.1 hl
    have hzs : zs = [] := List.length_eq_zero_iff.1 hz
    subst hxs
    subst hzs
    rw [hc rfl, run_copy_nil Try.prog W 23 23 ty 30 _ _ _ Try.underlying23 (by rw [hs]; rfl)]
    rw [List.take_nil, setRow_self W g _ _ _ hg]
    rfl
  | some a =>
    have hsrc : ∀ j v, (U (xs.take nd))[j]? = some v → W.cell? (a.add j) = some v := by
      intro j v hv
      have hj : j < (xs.take nd).length := by
        have := (List.getElem?_eq_some_iff.1 hv).1
        simpa [U] using this
      rw [U_get (xs.take nd) j hj] at hv
      obtain ⟨b, o, e, hcc⟩ := hx.take nd j hj
      obtain rfl := Option.some.inj e
      rw [← hv, ← hcc]
      rw [addr_add]
    have hlt : (xs.take nd).length = nd := by simp; omega
    have h := run_copy_row Try.prog W 23 23 ty 30 g 0 nd nd a n c (U zs).toArray 30 (U (xs.take nd)) Try.underlying23 hs hg (by simp only [U_length, hlt]; exact (Nat.min_eq_right hn).symm) hsrc (by simp only [U_length, hlt]; simp [U, hz]) (oneCell_U _)
    rw [h]
    have e1 : (U (xs.take nd)).length = nd := by rw [U_length, hlt]
    have e3 : (U zs).drop nd = [] := by simp [U, hz]
    simp [e1, e3]

end Go.Proofs.Ytnbmpldfbbidmaa
