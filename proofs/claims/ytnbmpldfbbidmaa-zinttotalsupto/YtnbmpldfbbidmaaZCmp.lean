/-
  Order: zint.Compare, the document's Sign and Cmp.
-/
import Derived.Test.YtnbmpldfbbidmaaZSign
import Derived.Test.YtnbmpldfbbidmaaZAdd
import Derived.Test.YtnbmpldfbbidmaaCalc
namespace Go.Proofs.Ytnbmpldfbbidmaa
open Go.RowKit Nt
set_option linter.unusedSimpArgs false
set_option linter.unusedVariables false

theorem sub_len {k x y : Nat} (s t : Bool) (hx : (digs x).length ≤ k) (hy : (digs y).length ≤ k) : (digs (sg s x - sg t y).natAbs).length ≤ k + 1 := by
  refine Nat.le_trans (digs_length_mono ?_) (digs_add_len hx hy)
  have e1 := sg_abs s x
  have e2 := sg_abs t y
  omega

theorem cmpN_sign (x y : Nat) : cmpN x y = ((x : Int) - (y : Int)).sign := by
  unfold cmpN
  split
  · rw [Int.sign_eq_neg_one_of_neg (by omega)]
  · split
    · rw [show (x : Int) - y = 0 by omega]; rfl
    · rw [Int.sign_eq_one_of_pos (by omega)]

theorem cmpN_cases (x y : Nat) : cmpN x y = -1 ∨ cmpN x y = 0 ∨ cmpN x y = 1 := by
  unfold cmpN
  split
  · exact Or.inl rfl
  · split
    · exact Or.inr (Or.inl rfl)
    · exact Or.inr (Or.inr rfl)

theorem sign_less {a b : Int} (h : a.sign < b.sign) : (a - b).sign = -1 := by
  apply Int.sign_eq_neg_one_of_neg
  rcases Int.lt_trichotomy a 0 with h1 | h1 | h1 <;> rcases Int.lt_trichotomy b 0 with h2 | h2 | h2 <;>
    first
    | omega
    | (simp only [Int.sign_eq_neg_one_of_neg, Int.sign_eq_one_of_pos, h1, h2, Int.sign_zero] at h; omega)
theorem sign_more {a b : Int} (h : b.sign < a.sign) : (a - b).sign = 1 := by
  have := sign_less h
  have e : a - b = - (b - a) := by omega
  rw [e, Int.sign_neg, this]
  rfl
/-- Numbers of one sign: by their magnitudes. -/
theorem sign_mul_cmp (s t : Bool) (x y : Nat) (h : (sg s x).sign = (sg t y).sign) : (sg s x).sign * cmpN x y = (sg s x - sg t y).sign := by
  rw [cmpN_sign, ← Int.sign_mul]
  by_cases hx : x = 0
  · have h0 : (sg s x).sign = 0 := sign_zero s hx
    rw [h0] at h
    have hy : sg t y = 0 := Int.sign_eq_zero_iff_zero.1 h.symm
    have hx0 : sg s x = 0 := Int.sign_eq_zero_iff_zero.1 h0
    rw [hx0, hy]
    simp
  · by_cases hy : y = 0
    · have h0 : (sg t y).sign = 0 := sign_zero t hy
      rw [h0] at h
      have hx0 : sg s x = 0 := Int.sign_eq_zero_iff_zero.1 h
      have := sg_abs s x
      rw [hx0] at this
      exact absurd this.symm (by simpa using hx)
    · cases s <;> cases t
      · unfold sg
        simp only [Bool.false_eq_true, if_false]
        rw [Int.sign_mul, Int.sign_eq_one_of_pos (by omega : (0 : Int) < x), Int.one_mul]
      · rw [sign_pos hx, sign_neg hy] at h; omega
      · rw [sign_neg hx, sign_pos hy] at h; omega
      · unfold sg
        simp only [if_true]
        rw [Int.sign_mul, Int.sign_eq_neg_one_of_neg (by omega : -(x : Int) < 0), show -(x : Int) - -(y : Int) = -((x : Int) - y) by omega, Int.sign_neg]
        omega

theorem keep4b {w w1 w2 : World} {a1 a2 a3 a4 : Addr} {v1 v2 v3 v4 : Value}
    (h : w1.cell? a1 = some v1 ∧ w1.cell? a2 = some v2 ∧ w1.cell? a3 = some v3 ∧ w1.cell? a4 = some v4 ∧ Hid (Below w.heap.size w w1)) (hb : Below w1.heap.size w1 w2) :
    w2.cell? a1 = some v1 ∧ w2.cell? a2 = some v2 ∧ w2.cell? a3 = some v3 ∧ w2.cell? a4 = some v4 ∧ Hid (Below w.heap.size w w2) :=
  ⟨cell_below h.1 hb, cell_below h.2.1 hb, cell_below h.2.2.1 hb, cell_below h.2.2.2.1 hb, Below.trans h.2.2.2.2 (hb.mono (Below.size h.2.2.2.2))⟩
theorem bel4b {A B C D : Prop} {w w' : World} (h : A ∧ B ∧ C ∧ D ∧ Hid (Below w.heap.size w w')) : Below w.heap.size w w' := h.2.2.2.2

/-- Into a call of two numbers. -/
theorem enter2c (w : World) (s : Bool) (p : Option Addr) (n c : Nat) (t : Bool) (q : Option Addr) (m d : Nat) :
    ∃ W g, w.heap.size = g ∧ (w.alloc (.cells #[.bool s, .slice p n c] 25)).alloc (.cells #[.bool t, .slice q m d] 25) = W ∧
      W.cell? ⟨g, 0, none⟩ = some (.bool s) ∧ W.cell? ⟨g, 1, none⟩ = some (.slice p n c) ∧ W.cell? ⟨g + 1, 0, none⟩ = some (.bool t) ∧ W.cell? ⟨g + 1, 1, none⟩ = some (.slice q m d) ∧ Hid (Below w.heap.size w W) := by
  have B1 := below_alloc w (.cells #[.bool s, .slice p n c] 25)
  have B2 := below_alloc (w.alloc (.cells #[.bool s, .slice p n c] 25)) (.cells #[.bool t, .slice q m d] 25)
  have X1 := (box_alloc w s p n c).below B2
  have X2 := box_alloc (w.alloc (.cells #[.bool s, .slice p n c] 25)) t q m d
  rw [show (w.alloc (.cells #[.bool s, .slice p n c] 25)).heap.size = w.heap.size + 1 from by simp] at X2
  exact ⟨_, _, rfl, rfl, X1.at0, X1.at1, X2.at0, X2.at1, B1.trans (B2.mono B1.size)⟩

theorem sign_range (z : Int) : -1 ≤ z.sign ∧ z.sign ≤ 1 := by
  rcases Int.lt_trichotomy z 0 with h | h | h
  · rw [Int.sign_eq_neg_one_of_neg h]; omega
  · subst h; simp
  · rw [Int.sign_eq_one_of_pos h]; omega

end Go.Proofs.Ytnbmpldfbbidmaa
