/-
  The calls of nat as calls on numbers: whatever limbs an argument has, what counts is what it is worth.
-/
import Derived.Test.YtnbmpldfbbidmaaSetA
import Derived.Test.YtnbmpldfbbidmaaAwake
namespace Go.Proofs.Ytnbmpldfbbidmaa
open Go.RowKit Nt
set_option linter.unusedSimpArgs false
set_option linter.unusedVariables false

/-- The slice is worth a. -/
def Num (w : World) (p : Option Addr) (n c a : Nat) : Prop := ∃ xs, Sl w p n c xs ∧ val xs = a
theorem Sl.num {w : World} {p : Option Addr} {n c : Nat} {xs : List Nat} (h : Sl w p n c xs) : Num w p n c (val xs) := ⟨xs, h, rfl⟩
theorem Sl.numd {w : World} {p : Option Addr} {n c a : Nat} (h : Sl w p n c (Nt.digs a)) : Num w p n c a := ⟨_, h, val_digs a⟩
theorem Num.below {w w' : World} {p : Option Addr} {n c a : Nat} (h : Num w p n c a) (hb : Below w.heap.size w w') : Num w' p n c a := by
  obtain ⟨xs, h1, h2⟩ := h
  exact ⟨xs, h1.below hb, h2⟩
theorem Num.dl {w : World} {p : Option Addr} {n c a : Nat} (h : Num w p n c a) : (digs a).length ≤ n := by
  obtain ⟨xs, h1, rfl⟩ := h
  exact h1.dl
theorem Num.cast {w : World} {p : Option Addr} {n c a b : Nat} (h : Num w p n c a) (e : a = b) : Num w p n c b := e ▸ h

theorem digs_add_len {a b k : Nat} (h1 : (digs a).length ≤ k) (h2 : (digs b).length ≤ k) : (digs (a + b)).length ≤ k + 1 := by
  apply digs_length_le
  have a1 := Nat.lt_of_lt_of_le (lt_pow_digs a) (Nat.pow_le_pow_right (n := 4294967296) (by omega) h1)
  have a2 := Nat.lt_of_lt_of_le (lt_pow_digs b) (Nat.pow_le_pow_right (n := 4294967296) (by omega) h2)
  rw [Nat.pow_succ]
  omega
theorem digs_mul_len {a b k l : Nat} (h1 : (digs a).length ≤ k) (h2 : (digs b).length ≤ l) : (digs (a * b)).length ≤ k + l := by
  apply digs_length_le
  have a1 := Nat.lt_of_lt_of_le (lt_pow_digs a) (Nat.pow_le_pow_right (n := 4294967296) (by omega) h1)
  have a2 := Nat.lt_of_lt_of_le (lt_pow_digs b) (Nat.pow_le_pow_right (n := 4294967296) (by omega) h2)
  rw [Nat.pow_add]
  exact Nat.mul_lt_mul'' a1 a2

theorem add_n (w : World) (p q : Option Addr) (n c m d a b : Nat) (h : Num w p n c a) (h' : Num w q m d b) (k : Nat) (hk : n ≤ k) (hk' : m ≤ k) (hs : k ≤ 70368744177663) :
    Calls Try.prog 23 #[.slice p n c, .slice q m d] w fun e w' => ∃ r cr, e = .returned (.slice r (digs (a + b)).length cr) ∧ Res w w' r cr (a + b) ∧ (digs (a + b)).length ≤ k + 1 := by
  have l1 := h.dl
  have l2 := h'.dl
  obtain ⟨xs, h1, rfl⟩ := h
  obtain ⟨ys, h2, rfl⟩ := h'
  refine (add_c w p q n c m d xs ys h1 h2 (by omega) (by omega)).mono ?_
  rintro e w' ⟨r, cr, rfl, R⟩
  exact ⟨r, cr, rfl, R, digs_add_len (by omega) (by omega)⟩

theorem sub_n (w : World) (p q : Option Addr) (n c m d a b : Nat) (h : Num w p n c a) (h' : Num w q m d b) (hle : b ≤ a) (k : Nat) (hk : n ≤ k) (hs : k ≤ 70368744177664) :
    Calls Try.prog 24 #[.slice p n c, .slice q m d] w fun e w' => ∃ r cr, e = .returned (.tuple #[.slice r (digs (a - b)).length cr, .int .i64 0]) ∧ Res w w' r cr (a - b) ∧ (digs (a - b)).length ≤ k := by
  have l1 := h.dl
  obtain ⟨xs, h1, rfl⟩ := h
  obtain ⟨ys, h2, rfl⟩ := h'
  refine (sub_c w p q n c m d xs ys h1 h2 (by omega) hle).mono ?_
  rintro e w' ⟨r, cr, rfl, R⟩
  exact ⟨r, cr, rfl, R, Nat.le_trans (digs_length_mono (Nat.sub_le _ _)) (by omega)⟩

theorem norm_n (w : World) (p : Option Addr) (n c a : Nat) (h : Num w p n c a) (k : Nat) (hk : n ≤ k) (hs : k ≤ 70368744177664) :
    Calls Try.prog 28 #[.slice p n c] w fun e w' => ∃ r cr, e = .returned (.slice r (digs a).length cr) ∧ Res w w' r cr a ∧ (digs a).length ≤ k := by
  have l1 := h.dl
  obtain ⟨xs, h1, rfl⟩ := h
  refine (norm_c w p n c xs h1 (by omega)).mono ?_
  rintro e w' ⟨rfl, rfl⟩
  exact ⟨_, _, rfl, Res.row ((Below.refl _ _).alloc (Nat.le_refl _) _) (heap_alloc_last _ _) (ok_digs _) (val_digs _) (Nat.le_refl _) rfl (by unfold maxLen; omega), by omega⟩

theorem cmp_n (w : World) (p q : Option Addr) (n c m d a b : Nat) (h : Num w p n c a) (h' : Num w q m d b) :
    Calls Try.prog 27 #[.slice p n c, .slice q m d] w fun e w' => e = .returned (.int .i64 (cmpN a b)) ∧ ∃ nq, w' = w.drewN nq := by
  obtain ⟨xs, h1, rfl⟩ := h
  obtain ⟨ys, h2, rfl⟩ := h'
  exact cmp_s w p q n c m d xs ys h1 h2

end Go.Proofs.Ytnbmpldfbbidmaa
