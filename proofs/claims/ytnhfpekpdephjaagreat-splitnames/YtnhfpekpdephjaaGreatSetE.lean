import Derived.Test.YtnhfpekpdephjaaGreatSetX
import Derived.Test.YtnhfpekpdephjaaGreatSetM
import Derived.Test.YtnhfpekpdephjaaGreatSetK
/-
 Signs and order: zint.Sign, Compare, and the document's.
-/
namespace Go.Proofs.YtnhfpekpdephjaaGreat
open Go.RowKit Nt
set_option linter.unusedSimpArgs false
set_option linter.unusedVariables false
set_option maxRecDepth 20000

/-- Into a call of one number. -/
theorem enter1b (w : World) (s : Bool) (p : Option Addr) (n c : Nat) :
  ∃ W g, w.heap.size = g ∧ w.alloc (.cells #[.bool s, .slice p n c] 33) = W ∧
   W.cell? ⟨g, 0, none⟩ = some (.bool s) ∧ W.cell? ⟨g, 1, none⟩ = some (.slice p n c) ∧ Hid (Below w.heap.size w W) := by
 have B1 := below_alloc w (.cells #[.bool s, .slice p n c] 33)
 have X1 := box_alloc w s p n c
 exact ⟨_, _, rfl, rfl, X1.at0, X1.at1, B1⟩

theorem bitLen_zero (v : Nat) : Go.bitLen v = 0 ↔ v = 0 := by
 constructor
 ·intro h
  obtain ⟨s1, s2⟩ := bitLen_spec v
  apply Classical.byContradiction
  intro h0
  have := s2 h0
  rw [h] at s1
  simp at s1
  omega
 ·intro h; subst h; rfl

theorem sign_zero (s : Bool) {m : Nat} (h : m = 0) : (sg s m).sign = 0 := by subst h; cases s <;> rfl
theorem sign_pos {m : Nat} (h : m ≠ 0) : (sg false m).sign = 1 := by
 unfold sg
 simp
 omega
theorem sign_neg {m : Nat} (h : m ≠ 0) : (sg true m).sign = -1 := by
 unfold sg
 simp
 omega

set_option maxHeartbeats 1000000 in
theorem zsign_c (w : World) (s : Bool) (p : Option Addr) (n c : Nat) (xs : List Nat) (h : Sl w p n c xs) (hs : n ≤ 70368744177664) :
  Calls Tryz.prog 17 #[.agg #[.bool s, .slice p n c]] w fun e w' => e = .returned (.int .i64 (sg s (val xs)).sign) ∧ Below w.heap.size w w' := by
 obtain ⟨W, g, hg, hW, c10, c11, HB⟩ := enter1b w s p n c
 have B := bits_c W p n c xs (h.below HB.out) (by omega)
 have hz := bitLen_zero (val xs)
 obtain ⟨bl, hbl⟩ : ∃ bl, Go.bitLen (val xs) = bl := ⟨_, rfl⟩
 rw [hbl] at B hz
 have HN := hid B
 clear h B hbl
 by_cases h0 : bl = 0
 ·rw [sign_zero s (hz.1 h0)]
  subst h0
  clear hz
  go_enter Tryz.func17, Tryz.ntmps17
  go_wp2_with fail
  refine HN.out.mono ?_
  rintro e w' ⟨rfl, rfl⟩
  go_wp2
  go_ret
  exact ⟨rfl, HB.out⟩
 ·have h1 : val xs ≠ 0 := fun e => h0 (hz.2 e)
  cases s with
  | false =>
   rw [sign_pos h1]
   clear hz h1
   go_enter Tryz.func17, Tryz.ntmps17
   go_wp2_with fail
   refine HN.out.mono ?_
   rintro e w' ⟨rfl, rfl⟩
   go_wp2
   go_ret
   exact ⟨rfl, HB.out⟩
  | true =>
   rw [sign_neg h1]
   clear hz h1
   go_enter Tryz.func17, Tryz.ntmps17
   go_wp2_with fail
   refine HN.out.mono ?_
   rintro e w' ⟨rfl, rfl⟩
   go_wp2
   go_ret
   exact ⟨rfl, HB.out⟩
end Go.Proofs.YtnhfpekpdephjaaGreat

/-
 Order: zint.Compare, the document's Sign and Cmp.
-/
namespace Go.Proofs.YtnhfpekpdephjaaGreat
open Go.RowKit Nt
set_option linter.unusedSimpArgs false
set_option linter.unusedVariables false
set_option maxRecDepth 20000

theorem cmp_less (a b : Int) (w : World) (h : a < b) : Calls Tryz.prog 54 #[.int .i64 a, .int .i64 b] w fun e w' => e = .returned (.int .i64 (-1)) ∧ w' = w := by
 go_enter Tryz.func54, Tryz.ntmps54
 go_wp2
 go_ret
 exact ⟨rfl, rfl⟩
theorem cmp_more (a b : Int) (w : World) (h : b < a) : Calls Tryz.prog 54 #[.int .i64 a, .int .i64 b] w fun e w' => e = .returned (.int .i64 1) ∧ w' = w := by
 have h' : ¬ a < b := by omega
 go_enter Tryz.func54, Tryz.ntmps54
 go_wp2
 go_ret
 exact ⟨rfl, rfl⟩

theorem cmpN_sign (x y : Nat) : cmpN x y = ((x : Int) - (y : Int)).sign := by
 unfold cmpN
 split
 ·rw [Int.sign_eq_neg_one_of_neg (by omega)]
 ·split
  ·rw [show (x : Int) - y = 0 by omega]; rfl
  ·rw [Int.sign_eq_one_of_pos (by omega)]

theorem cmpN_cases (x y : Nat) : cmpN x y = -1 ∨ cmpN x y = 0 ∨ cmpN x y = 1 := by
 unfold cmpN
 split
 ·exact Or.inl rfl
 ·split
  ·exact Or.inr (Or.inl rfl)
  ·exact Or.inr (Or.inr rfl)

theorem sign_less {a b : Int} (h : a.sign < b.sign) : (a - b).sign = -1 := by
 apply Int.sign_eq_neg_one_of_neg
 rcases Int.lt_trichotomy a 0 with h1 | h1 | h1 <;> rcases Int.lt_trichotomy b 0 with h2 | h2 | h2 <;>
  first
  | omega
  | (simp only [Int.sign_eq_neg_one_of_neg, Int.sign_eq_one_of_pos, h1, h2, Int.sign_zero] at h; omega)
theorem sign_more {a b : Int} (h : b.sign < a.sign) : (a - b).sign = 1 := by
 have := sign_less h
 have e : a - b = - (b - a) := by omega
 rw [e, Int.sign_neg, this]
 rfl
/-- Numbers of one sign: by their magnitudes. -/
theorem sign_mul_cmp (s t : Bool) (x y : Nat) (h : (sg s x).sign = (sg t y).sign) : (sg s x).sign * cmpN x y = (sg s x - sg t y).sign := by
 rw [cmpN_sign, ← Int.sign_mul]
 by_cases hx : x = 0
 ·have h0 : (sg s x).sign = 0 := sign_zero s hx
  rw [h0] at h
  have hy : sg t y = 0 := Int.sign_eq_zero_iff_zero.1 h.symm
  have hx0 : sg s x = 0 := Int.sign_eq_zero_iff_zero.1 h0
  rw [hx0, hy]
  simp
 ·by_cases hy : y = 0
  ·have h0 : (sg t y).sign = 0 := sign_zero t hy
   rw [h0] at h
   have hx0 : sg s x = 0 := Int.sign_eq_zero_iff_zero.1 h
   have := sg_abs s x
   rw [hx0] at this
   exact absurd this.symm (by simpa using hx)
  ·cases s <;> cases t
   ·unfold sg
    simp only [Bool.false_eq_true, if_false]
    rw [Int.sign_mul, Int.sign_eq_one_of_pos (by omega : (0 : Int) < x), Int.one_mul]
   ·rw [sign_pos hx, sign_neg hy] at h; omega
   ·rw [sign_neg hx, sign_pos hy] at h; omega
   ·unfold sg
    simp only [if_true]
    rw [Int.sign_mul, Int.sign_eq_neg_one_of_neg (by omega : -(x : Int) < 0), show -(x : Int) - -(y : Int) = -((x : Int) - y) by omega, Int.sign_neg]
    omega

theorem keep4b {w w1 w2 : World} {a1 a2 a3 a4 : Addr} {v1 v2 v3 v4 : Value}
  (h : w1.cell? a1 = some v1 ∧ w1.cell? a2 = some v2 ∧ w1.cell? a3 = some v3 ∧ w1.cell? a4 = some v4 ∧ Hid (Below w.heap.size w w1)) (hb : Below w1.heap.size w1 w2) :
  w2.cell? a1 = some v1 ∧ w2.cell? a2 = some v2 ∧ w2.cell? a3 = some v3 ∧ w2.cell? a4 = some v4 ∧ Hid (Below w.heap.size w w2) :=
 ⟨cell_below h.1 hb, cell_below h.2.1 hb, cell_below h.2.2.1 hb, cell_below h.2.2.2.1 hb, Below.trans h.2.2.2.2 (hb.mono (Below.size h.2.2.2.2))⟩
theorem bel4b {A B C D : Prop} {w w' : World} (h : A ∧ B ∧ C ∧ D ∧ Hid (Below w.heap.size w w')) : Below w.heap.size w w' := h.2.2.2.2

/-- Into a call of two numbers. -/
theorem enter2c (w : World) (s : Bool) (p : Option Addr) (n c : Nat) (t : Bool) (q : Option Addr) (m d : Nat) :
  ∃ W g, w.heap.size = g ∧ (w.alloc (.cells #[.bool s, .slice p n c] 33)).alloc (.cells #[.bool t, .slice q m d] 33) = W ∧
   W.cell? ⟨g, 0, none⟩ = some (.bool s) ∧ W.cell? ⟨g, 1, none⟩ = some (.slice p n c) ∧ W.cell? ⟨g + 1, 0, none⟩ = some (.bool t) ∧ W.cell? ⟨g + 1, 1, none⟩ = some (.slice q m d) ∧ Hid (Below w.heap.size w W) := by
 have B1 := below_alloc w (.cells #[.bool s, .slice p n c] 33)
 have B2 := below_alloc (w.alloc (.cells #[.bool s, .slice p n c] 33)) (.cells #[.bool t, .slice q m d] 33)
 have X1 := (box_alloc w s p n c).below B2
 have X2 := box_alloc (w.alloc (.cells #[.bool s, .slice p n c] 33)) t q m d
 rw [show (w.alloc (.cells #[.bool s, .slice p n c] 33)).heap.size = w.heap.size + 1 from by simp] at X2
 exact ⟨_, _, rfl, rfl, X1.at0, X1.at1, X2.at0, X2.at1, B1.trans (B2.mono B1.size)⟩

theorem sign_range (z : Int) : -1 ≤ z.sign ∧ z.sign ≤ 1 := by
 rcases Int.lt_trichotomy z 0 with h | h | h
 ·rw [Int.sign_eq_neg_one_of_neg h]; omega
 ·subst h; simp
 ·rw [Int.sign_eq_one_of_pos h]; omega

set_option maxHeartbeats 4000000 in
theorem zcompare_c (w : World) (s t : Bool) (p q : Option Addr) (n c m d : Nat) (xs ys : List Nat) (h : Sl w p n c xs) (h' : Sl w q m d ys) (hs : n ≤ 70368744177664) (hs' : m ≤ 70368744177664) :
  Calls Tryz.prog 36 #[.agg #[.bool s, .slice p n c], .agg #[.bool t, .slice q m d]] w fun e w' => e = .returned (.int .i64 (sg s (val xs) - sg t (val ys)).sign) ∧ Below w.heap.size w w' := by
 obtain ⟨W, g, hg, hW, c10, c11, c20, c21, HB⟩ := enter2c w s p n c t q m d
 have SX : Hid (∀ W', Below w.heap.size w W' → Calls Tryz.prog 17 #[.agg #[.bool s, .slice p n c]] W' fun e w' => e = .returned (.int .i64 (sg s (val xs)).sign) ∧ Below W'.heap.size W' w') := fun W' hb => zsign_c W' s p n c xs (h.below hb) hs
 have SY : Hid (∀ W', Below w.heap.size w W' → Calls Tryz.prog 17 #[.agg #[.bool t, .slice q m d]] W' fun e w' => e = .returned (.int .i64 (sg t (val ys)).sign) ∧ Below W'.heap.size W' w') := fun W' hb => zsign_c W' t q m d ys (h'.below hb) hs'
 have CM : Hid (∀ W', Below w.heap.size w W' → Calls Tryz.prog 55 #[.slice p n c, .slice q m d] W' fun e w' => e = .returned (.int .i64 (cmpN (val xs) (val ys))) ∧ Below W'.heap.size W' w') := fun W' hb => (cmp_s W' p q n c m d xs ys (h.below hb) (h'.below hb)).mono (fun e w' ⟨h1, nq, h2⟩ => ⟨h1, by rw [h2]; exact below_drewN' (Below.refl _ _) nq⟩)
 have FL : Hid ((sg s (val xs)).sign < (sg t (val ys)).sign → (sg s (val xs) - sg t (val ys)).sign = -1) := sign_less
 have FM : Hid ((sg t (val ys)).sign < (sg s (val xs)).sign → (sg s (val xs) - sg t (val ys)).sign = 1) := sign_more
 have FE : Hid ((sg s (val xs)).sign = (sg t (val ys)).sign → (sg s (val xs)).sign * cmpN (val xs) (val ys) = (sg s (val xs) - sg t (val ys)).sign) := sign_mul_cmp s t _ _
 have r1 := sign_range (sg s (val xs))
 have r2 := sign_range (sg t (val ys))
 have r3 := cmpN_cases (val xs) (val ys)
 obtain ⟨a, ha⟩ : ∃ a, (sg s (val xs)).sign = a := ⟨_, rfl⟩
 obtain ⟨b, hb⟩ : ∃ b, (sg t (val ys)).sign = b := ⟨_, rfl⟩
 obtain ⟨k, hk⟩ : ∃ k, cmpN (val xs) (val ys) = k := ⟨_, rfl⟩
 obtain ⟨z, hz⟩ : ∃ z, (sg s (val xs) - sg t (val ys)).sign = z := ⟨_, rfl⟩
 rw [ha] at SX FL FM FE r1
 rw [hb] at SY FL FM FE r2
 rw [hk] at CM FE r3
 rw [hz] at FL FM FE
 rw [hz]
 clear h h' ha hb hk hz
 have tail : ∀ v, z = v → Calls Tryz.prog 36 #[.agg #[.bool s, .slice p n c], .agg #[.bool t, .slice q m d]] w fun e w' => e = .returned (.int .i64 v) ∧ Below w.heap.size w w' := by
  intro v hv
  rcases Int.lt_trichotomy a b with hab | hab | hab
  ·obtain rfl : v = -1 := by rw [← hv]; exact FL.out hab
   have hne : a ≠ b := by omega
   clear FL FM FE r3
   go_enter Tryz.func36, Tryz.ntmps36
   go_wp2
   go_region_held3 (fun w' => w'.cell? ⟨g, 0, none⟩ = some (.bool s) ∧ w'.cell? ⟨g, 1, none⟩ = some (.slice p n c) ∧ w'.cell? ⟨g + 1, 0, none⟩ = some (.bool t) ∧ w'.cell? ⟨g + 1, 1, none⟩ = some (.slice q m d) ∧ Hid (Below w.heap.size w w'))
    (first | (with_reducible exact keep4b (by assumption) hBz) | (exact ⟨c10, c11, c20, c21, HB.out.drew⟩) | fail)
    (first | (go_at_call_of 17 (Value.slice p n c); refine (SX.out _ (bel4b (by assumption))).mono ?_; rintro e w1 ⟨rfl, hBz⟩)
           | (go_at_call_of 17 (Value.slice q m d); refine (SY.out _ (bel4b (by assumption))).mono ?_; rintro e w2 ⟨rfl, hBz⟩; have HS := hid (keep4b (w := w) (by assumption) hBz)))
   have HF : Hid (Below w.heap.size w w2) := bel4b HS.out
   have CL := hid (cmp_less a b w2 hab)
   go_wp2_with (go_at_call 54; refine CL.out.mono ?_; rintro e w3 ⟨rfl, rfl⟩)
   go_ret
   exact ⟨rfl, HF.out⟩
  ·subst hab
   obtain rfl : v = a * k := by rw [← hv]; exact (FE.out rfl).symm
   clear FL FM FE
   go_enter Tryz.func36, Tryz.ntmps36
   go_wp2
   go_region_held3 (fun w' => w'.cell? ⟨g, 0, none⟩ = some (.bool s) ∧ w'.cell? ⟨g, 1, none⟩ = some (.slice p n c) ∧ w'.cell? ⟨g + 1, 0, none⟩ = some (.bool t) ∧ w'.cell? ⟨g + 1, 1, none⟩ = some (.slice q m d) ∧ Hid (Below w.heap.size w w'))
    (first | (with_reducible exact keep4b (by assumption) hBz) | (exact ⟨c10, c11, c20, c21, HB.out.drew⟩) | fail)
    (first | (go_at_call_of 17 (Value.slice p n c); refine (SX.out _ (bel4b (by assumption))).mono ?_; rintro e w1 ⟨rfl, hBz⟩)
           | (go_at_call_of 17 (Value.slice q m d); refine (SY.out _ (bel4b (by assumption))).mono ?_; rintro e w2 ⟨rfl, hBz⟩; have HS := hid (keep4b (w := w) (by assumption) hBz)))
   obtain ⟨e10, e11, e20, e21, HF⟩ := HS.out
   have CMz := hid (CM.out w2 HF.out)
   have hr1 : -1 ≤ a * k := by
    rcases r3 with r | r | r <;> subst r <;> omega
   have hr2 : a * k ≤ 1 := by
    rcases r3 with r | r | r <;> subst r <;> omega
   clear c10 c11 c20 c21
   go_wp2_with (go_at_call 55; refine CMz.out.mono ?_; rintro e w3 ⟨rfl, hB3⟩)
   go_ret
   exact ⟨rfl, HF.out.trans (hB3.mono HF.out.size)⟩
  ·obtain rfl : v = 1 := by rw [← hv]; exact FM.out hab
   have hne : a ≠ b := by omega
   clear FL FM FE r3
   go_enter Tryz.func36, Tryz.ntmps36
   go_wp2
   go_region_held3 (fun w' => w'.cell? ⟨g, 0, none⟩ = some (.bool s) ∧ w'.cell? ⟨g, 1, none⟩ = some (.slice p n c) ∧ w'.cell? ⟨g + 1, 0, none⟩ = some (.bool t) ∧ w'.cell? ⟨g + 1, 1, none⟩ = some (.slice q m d) ∧ Hid (Below w.heap.size w w'))
    (first | (with_reducible exact keep4b (by assumption) hBz) | (exact ⟨c10, c11, c20, c21, HB.out.drew⟩) | fail)
    (first | (go_at_call_of 17 (Value.slice p n c); refine (SX.out _ (bel4b (by assumption))).mono ?_; rintro e w1 ⟨rfl, hBz⟩)
           | (go_at_call_of 17 (Value.slice q m d); refine (SY.out _ (bel4b (by assumption))).mono ?_; rintro e w2 ⟨rfl, hBz⟩; have HS := hid (keep4b (w := w) (by assumption) hBz)))
   have HF : Hid (Below w.heap.size w w2) := bel4b HS.out
   have CL := hid (cmp_more a b w2 hab)
   go_wp2_with (go_at_call 54; refine CL.out.mono ?_; rintro e w3 ⟨rfl, rfl⟩)
   go_ret
   exact ⟨rfl, HF.out⟩
 exact tail z rfl
end Go.Proofs.YtnhfpekpdephjaaGreat

/-
 Small numbers: Of, zint's and the document's.
-/
namespace Go.Proofs.YtnhfpekpdephjaaGreat
open Go.RowKit Nt
set_option linter.unusedSimpArgs false
set_option linter.unusedVariables false
set_option maxRecDepth 20000

theorem val_two (m : Nat) (h : m < 18446744073709551616) : val [m % 4294967296, m / 4294967296] = m := by
 simp only [val]
 omega
theorem ok_two (m : Nat) (h : m < 18446744073709551616) : Ok [m % 4294967296, m / 4294967296] := Ok.cons (Nat.mod_lt _ (by omega)) (Ok.cons (by omega) Ok.nil)
theorem sl_two (w : World) (m : Nat) (h : m < 18446744073709551616) :
  Sl (w.alloc (.cells #[.int .u32 ((m % 4294967296 : Nat) : Int), .int .u32 ((m / 4294967296 : Nat) : Int)] 87)) (some ⟨w.heap.size, 0, none⟩) 2 2 [m % 4294967296, m / 4294967296] :=
 ⟨rfl, Nat.le_refl _, by unfold maxLen; omega, (fun e => by cases e), ok_two m h, Blk.limbs (show Blk _ _ [m % 4294967296, m / 4294967296] from heap_alloc_last _ _)⟩
theorem neg_wrap (m : Nat) (h0 : 0 < m) (h : m ≤ 9223372036854775808) : IntKind.u64.wrap (-IntKind.u64.wrap (-(m : Int))) = (m : Int) := by
 have e1 : IntKind.u64.wrap (-(m : Int)) = 18446744073709551616 - (m : Int) := by
  rw [IntKind.wrap_u64]
  omega
 rw [e1, IntKind.wrap_u64]
 omega

set_option maxHeartbeats 1000000 in
theorem zof_c (w : World) (x : Int) (h1 : -9223372036854775808 ≤ x) (h2 : x < 9223372036854775808) :
  Calls Tryz.prog 27 #[.int .i64 x] w fun e w' => ∃ r cr, e = .returned (.agg #[.bool (ng x), .slice r (digs x.natAbs).length cr]) ∧ Za w w' r cr x := by
 obtain ⟨W, g, hg, hW, c00, c01, HI⟩ := enter0 w
 obtain ⟨m, hm⟩ : ∃ m, x.natAbs = m := ⟨_, rfl⟩
 have hmb : m ≤ 9223372036854775808 := by omega
 have SL := sl_two W m (by omega)
 have hv := val_two m (by omega)
 obtain ⟨lo, hlo⟩ : ∃ lo, m % 4294967296 = lo := ⟨_, rfl⟩
 obtain ⟨hi, hhi⟩ : ∃ hi, m / 4294967296 = hi := ⟨_, rfl⟩
 rw [hlo, hhi] at SL hv
 have e1 : (m : Int) % 4294967296 = (lo : Int) := by omega
 have e2 : (m : Int) / 4294967296 = (hi : Int) := by omega
 have hhb : hi < 4294967296 := by omega
 have B1 := below_alloc W (.cells #[.int .u32 (lo : Int), .int .u32 (hi : Int)] 87)
 have FX := fun (s : Bool) => zform_c _ s _ 2 2 [lo, hi] SL (by omega)
 rw [hv] at FX
 have tail : ∀ (s : Bool), sg s m = x → Hid (Calls Tryz.prog 22 #[.agg #[.bool s, .slice (some ⟨W.heap.size, 0, none⟩) 2 2]] (W.alloc (.cells #[.int .u32 (lo : Int), .int .u32 (hi : Int)] 87)) fun e w' => ∃ r cr, e = .returned (.agg #[.bool (ng x), .slice r (digs x.natAbs).length cr]) ∧ Za (W.alloc (.cells #[.int .u32 (lo : Int), .int .u32 (hi : Int)] 87)) w' r cr x) := by
  intro s e
  have := FX s
  rw [e] at this
  exact this
 obtain ⟨W1, hW1⟩ : ∃ W1, W.alloc (.cells #[.int .u32 (lo : Int), .int .u32 (hi : Int)] 87) = W1 := ⟨_, rfl⟩
 rw [hW1] at tail B1
 obtain ⟨b, hb⟩ : ∃ b, ng x = b := ⟨_, rfl⟩
 obtain ⟨L, hL⟩ : ∃ L, (digs x.natAbs).length = L := ⟨_, rfl⟩
 rw [hb, hL] at tail ⊢
 have HB1 := hid B1
 clear SL FX hv B1 hb hL hlo hhi
 by_cases h0 : x < 0
 ·have T := tail true (by unfold sg; simp; omega)
  clear tail
  obtain rfl : x = -(m : Int) := by omega
  have ew := neg_wrap m (by omega) hmb
  go_enter Tryz.func27, Tryz.ntmps27
  go_wp2_with fail
  refine T.out.mono ?_
  rintro e w1 ⟨r, cr, rfl, A⟩
  have hI2 := hid (HI.out.call ((HB1.out.trans (A.below.mono HB1.out.size))))
  have hAs := hid A.sl
  have hAf := hid A.fresh
  have hs1 := HB1.out.size
  clear A
  obtain ⟨b3, r3, n3, c3, hx3⟩ := hI2.out.box
  have k0 := hx3.at0
  have k1 := hx3.at1
  have k2 := hx3.frozen 0
  have k3 := hx3.frozen 1
  go_wp2
  have hc0 := (hx3.set b r L cr).at0
  have hc1 := (hx3.set b r L cr).at1
  refine bodyPost_ret (by simp [results, Tryz.results27, go_sem, hc0, hc1]; try rfl) rfl ?_
  exact ⟨r, cr, rfl, hI2.out.fin (w1 := w) hAs.out (fun b o e => Nat.lt_of_lt_of_le HI.out.lt (Nat.le_trans hs1 (hAf.out b o e))) _ _⟩
 ·have T := tail false (by unfold sg; simp; omega)
  clear tail
  obtain rfl : x = (m : Int) := by omega
  go_enter Tryz.func27, Tryz.ntmps27
  go_wp2_with fail
  refine T.out.mono ?_
  rintro e w1 ⟨r, cr, rfl, A⟩
  have hI2 := hid (HI.out.call ((HB1.out.trans (A.below.mono HB1.out.size))))
  have hAs := hid A.sl
  have hAf := hid A.fresh
  have hs1 := HB1.out.size
  clear A
  obtain ⟨b3, r3, n3, c3, hx3⟩ := hI2.out.box
  have k0 := hx3.at0
  have k1 := hx3.at1
  have k2 := hx3.frozen 0
  have k3 := hx3.frozen 1
  go_wp2
  have hc0 := (hx3.set b r L cr).at0
  have hc1 := (hx3.set b r L cr).at1
  refine bodyPost_ret (by simp [results, Tryz.results27, go_sem, hc0, hc1]; try rfl) rfl ?_
  exact ⟨r, cr, rfl, hI2.out.fin (w1 := w) hAs.out (fun b o e => Nat.lt_of_lt_of_le HI.out.lt (Nat.le_trans hs1 (hAf.out b o e))) _ _⟩

set_option maxHeartbeats 1000000 in
theorem zrof_c (w : World) (x : Int) (h1 : -9223372036854775808 ≤ x) (h2 : x < 9223372036854775808) :
  Calls Tryz.prog 24 #[.int .i64 x] w fun e w' => ∃ r cr, e = .returned (.agg #[.bool (ng x), .slice r (digs x.natAbs).length cr]) ∧ Za w w' r cr x := by
 obtain ⟨W, g, hg, hW, c00, c01, HI⟩ := enter0 w
 obtain ⟨m, hm⟩ : ∃ m, x.natAbs = m := ⟨_, rfl⟩
 have hmb : m ≤ 9223372036854775808 := by omega
 have SL := sl_two W m (by omega)
 have hv := val_two m (by omega)
 obtain ⟨lo, hlo⟩ : ∃ lo, m % 4294967296 = lo := ⟨_, rfl⟩
 obtain ⟨hi, hhi⟩ : ∃ hi, m / 4294967296 = hi := ⟨_, rfl⟩
 rw [hlo, hhi] at SL hv
 have e1 : (m : Int) % 4294967296 = (lo : Int) := by omega
 have e2 : (m : Int) / 4294967296 = (hi : Int) := by omega
 have hhb : hi < 4294967296 := by omega
 have B1 := below_alloc W (.cells #[.int .u32 (lo : Int), .int .u32 (hi : Int)] 87)
 have FX := fun (s : Bool) => made_c _ s _ 2 2 [lo, hi] SL (by omega)
 rw [hv] at FX
 have tail : ∀ (s : Bool), sg s m = x → Hid (Calls Tryz.prog 41 #[.bool s, .slice (some ⟨W.heap.size, 0, none⟩) 2 2] (W.alloc (.cells #[.int .u32 (lo : Int), .int .u32 (hi : Int)] 87)) fun e w' => ∃ r cr, e = .returned (.agg #[.bool (ng x), .slice r (digs x.natAbs).length cr]) ∧ Za (W.alloc (.cells #[.int .u32 (lo : Int), .int .u32 (hi : Int)] 87)) w' r cr x) := by
  intro s e
  have := FX s
  rw [e] at this
  exact this
 obtain ⟨W1, hW1⟩ : ∃ W1, W.alloc (.cells #[.int .u32 (lo : Int), .int .u32 (hi : Int)] 87) = W1 := ⟨_, rfl⟩
 rw [hW1] at tail B1
 obtain ⟨b, hb⟩ : ∃ b, ng x = b := ⟨_, rfl⟩
 obtain ⟨L, hL⟩ : ∃ L, (digs x.natAbs).length = L := ⟨_, rfl⟩
 rw [hb, hL] at tail ⊢
 have HB1 := hid B1
 clear SL FX hv B1 hb hL hlo hhi
 by_cases h0 : x < 0
 ·have T := tail true (by unfold sg; simp; omega)
  clear tail
  obtain rfl : x = -(m : Int) := by omega
  have ew := neg_wrap m (by omega) hmb
  go_enter Tryz.func24, Tryz.ntmps24
  go_wp2_with fail
  refine T.out.mono ?_
  rintro e w1 ⟨r, cr, rfl, A⟩
  have hI2 := hid (HI.out.call ((HB1.out.trans (A.below.mono HB1.out.size))))
  have hAs := hid A.sl
  have hAf := hid A.fresh
  have hs1 := HB1.out.size
  clear A
  obtain ⟨b3, r3, n3, c3, hx3⟩ := hI2.out.box
  have k0 := hx3.at0
  have k1 := hx3.at1
  have k2 := hx3.frozen 0
  have k3 := hx3.frozen 1
  go_wp2
  have hc0 := (hx3.set b r L cr).at0
  have hc1 := (hx3.set b r L cr).at1
  refine bodyPost_ret (by simp [results, Tryz.results24, go_sem, hc0, hc1]; try rfl) rfl ?_
  exact ⟨r, cr, rfl, hI2.out.fin (w1 := w) hAs.out (fun b o e => Nat.lt_of_lt_of_le HI.out.lt (Nat.le_trans hs1 (hAf.out b o e))) _ _⟩
 ·have T := tail false (by unfold sg; simp; omega)
  clear tail
  obtain rfl : x = (m : Int) := by omega
  go_enter Tryz.func24, Tryz.ntmps24
  go_wp2_with fail
  refine T.out.mono ?_
  rintro e w1 ⟨r, cr, rfl, A⟩
  have hI2 := hid (HI.out.call ((HB1.out.trans (A.below.mono HB1.out.size))))
  have hAs := hid A.sl
  have hAf := hid A.fresh
  have hs1 := HB1.out.size
  clear A
  obtain ⟨b3, r3, n3, c3, hx3⟩ := hI2.out.box
  have k0 := hx3.at0
  have k1 := hx3.at1
  have k2 := hx3.frozen 0
  have k3 := hx3.frozen 1
  go_wp2
  have hc0 := (hx3.set b r L cr).at0
  have hc1 := (hx3.set b r L cr).at1
  refine bodyPost_ret (by simp [results, Tryz.results24, go_sem, hc0, hc1]; try rfl) rfl ?_
  exact ⟨r, cr, rfl, hI2.out.fin (w1 := w) hAs.out (fun b o e => Nat.lt_of_lt_of_le HI.out.lt (Nat.le_trans hs1 (hAf.out b o e))) _ _⟩
end Go.Proofs.YtnhfpekpdephjaaGreat
