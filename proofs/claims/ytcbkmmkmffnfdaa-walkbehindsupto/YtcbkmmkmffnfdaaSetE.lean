import Derived.Test.YtcbkmmkmffnfdaaSetX
import Derived.Test.YtcbkmmkmffnfdaaSetM
import Derived.Test.YtcbkmmkmffnfdaaSetK
/-
 Signs and order: zint.Sign, Compare, and the document's.
-/
namespace Go.Proofs.Ytcbkmmkmffnfdaa
open Go.RowKit Nt
set_option linter.unusedSimpArgs false
set_option linter.unusedVariables false

/-- Into a call of one number. -/
theorem enter1b (w : World) (s : Bool) (p : Option Addr) (n c : Nat) :
  ∃ W g, w.heap.size = g ∧ w.alloc (.cells #[.bool s, .slice p n c] 24) = W ∧
   W.cell? ⟨g, 0, none⟩ = some (.bool s) ∧ W.cell? ⟨g, 1, none⟩ = some (.slice p n c) ∧ Hid (Below w.heap.size w W) := by
 have B1 := below_alloc w (.cells #[.bool s, .slice p n c] 24)
 have X1 := box_alloc w s p n c
 exact ⟨_, _, rfl, rfl, X1.at0, X1.at1, B1⟩

theorem bitLen_zero (v : Nat) : Go.bitLen v = 0 ↔ v = 0 := by
 constructor
 ·intro h
  obtain ⟨s1, s2⟩ := bitLen_spec v
  apply Classical.byContradiction
  intro h0
  have := s2 h0
  rw [h] at s1
  simp at s1
  omega
 ·intro h; subst h; rfl

theorem sign_zero (s : Bool) {m : Nat} (h : m = 0) : (sg s m).sign = 0 := by subst h; cases s <;> rfl
theorem sign_pos {m : Nat} (h : m ≠ 0) : (sg false m).sign = 1 := by
 unfold sg
 simp
 omega
theorem sign_neg {m : Nat} (h : m ≠ 0) : (sg true m).sign = -1 := by
 unfold sg
 simp
 omega

set_option maxHeartbeats 1000000 in
theorem zsign_c (w : World) (s : Bool) (p : Option Addr) (n c : Nat) (xs : List Nat) (h : Sl w p n c xs) (hs : n ≤ 70368744177664) :
    Calls Try.prog 19 #[.agg #[.bool s, .slice p n c]] w fun e w' => e = .returned (.int .i64 (sg s (val xs)).sign) ∧ Below w.heap.size w w' := by
  obtain ⟨W, g, hg, hW, c10, c11, HB⟩ := enter1b w s p n c
  have B := bits_c W p n c xs (h.below HB.out) (by omega)
  have hz := bitLen_zero (val xs)
  obtain ⟨bl, hbl⟩ : ∃ bl, Go.bitLen (val xs) = bl := ⟨_, rfl⟩
  rw [hbl] at B hz
  have HN := hid B
  clear h B hbl
  by_cases h0 : bl = 0
  · rw [sign_zero s (hz.1 h0)]
    subst h0
    clear hz
    go_enter Try.func19, Try.ntmps19
    go_wp2_with fail
    refine HN.out.mono ?_
    rintro e w' ⟨rfl, rfl⟩
    go_wp2
    go_ret
    exact ⟨rfl, HB.out⟩
  · have h1 : val xs ≠ 0 := fun e => h0 (hz.2 e)
    cases s with
    | false =>
      rw [sign_pos h1]
      clear hz h1
      go_enter Try.func19, Try.ntmps19
      go_wp2_with fail
      refine HN.out.mono ?_
      rintro e w' ⟨rfl, rfl⟩
      go_wp2
      go_ret
      exact ⟨rfl, HB.out⟩
    | true =>
      rw [sign_neg h1]
      clear hz h1
      go_enter Try.func19, Try.ntmps19
      go_wp2_with fail
      refine HN.out.mono ?_
      rintro e w' ⟨rfl, rfl⟩
      go_wp2
      go_ret
      exact ⟨rfl, HB.out⟩
end Go.Proofs.Ytcbkmmkmffnfdaa

/-
 Order: zint.Compare, the document's Sign and Cmp.
-/
namespace Go.Proofs.Ytcbkmmkmffnfdaa
open Go.RowKit Nt
set_option linter.unusedSimpArgs false
set_option linter.unusedVariables false

set_option maxHeartbeats 1000000 in
theorem zrsign_c (w : World) (s : Bool) (p : Option Addr) (n c : Nat) (xs : List Nat) (h : Sl w p n c xs) (hs : n ≤ 35184372088832) :
    Calls Try.prog 11 #[.agg #[.bool s, .slice p n c]] w fun e w' => e = .returned (.int .i64 (sg s (val xs)).sign) ∧ Below w.heap.size w w' := by
  obtain ⟨W, g, hg, hW, c10, c11, HB⟩ := enter1b w s p n c
  have B := rnorm_c W p n c xs (h.below HB.out) hs
  have hz := digs_length_zero (val xs)
  have hdl := h.dl
  obtain ⟨L, hL⟩ : ∃ L, (digs (val xs)).length = L := ⟨_, rfl⟩
  rw [hL] at B hz hdl
  have HN := hid B
  clear h B hL
  by_cases h0 : L = 0
  · rw [sign_zero s (hz.1 h0)]
    subst h0
    clear hz
    go_enter Try.func11, Try.ntmps11
    go_wp2_with fail
    refine HN.out.mono ?_
    rintro e w' ⟨r, cr, rfl, A⟩
    have HF := hid (HB.out.trans (A.below.mono HB.out.size))
    clear A
    go_wp2
    go_ret
    exact ⟨rfl, HF.out⟩
  · have h1 : val xs ≠ 0 := fun e => h0 (hz.2 e)
    cases s with
    | false =>
      rw [sign_pos h1]
      clear hz h1
      go_enter Try.func11, Try.ntmps11
      go_wp2_with fail
      refine HN.out.mono ?_
      rintro e w' ⟨r, cr, rfl, A⟩
      have HF := hid (HB.out.trans (A.below.mono HB.out.size))
      replace c10 := cell_below c10 A.below
      clear A
      go_wp2
      go_ret
      exact ⟨rfl, HF.out⟩
    | true =>
      rw [sign_neg h1]
      clear hz h1
      go_enter Try.func11, Try.ntmps11
      go_wp2_with fail
      refine HN.out.mono ?_
      rintro e w' ⟨r, cr, rfl, A⟩
      have HF := hid (HB.out.trans (A.below.mono HB.out.size))
      replace c10 := cell_below c10 A.below
      clear A
      go_wp2
      go_ret
      exact ⟨rfl, HF.out⟩

end Go.Proofs.Ytcbkmmkmffnfdaa

/-
 Small numbers: Of, zint's and the document's.
-/
namespace Go.Proofs.Ytcbkmmkmffnfdaa
open Go.RowKit Nt
set_option linter.unusedSimpArgs false
set_option linter.unusedVariables false

theorem val_two (m : Nat) (h : m < 18446744073709551616) : val [m % 4294967296, m / 4294967296] = m := by
 simp only [val]
 omega
theorem ok_two (m : Nat) (h : m < 18446744073709551616) : Ok [m % 4294967296, m / 4294967296] := Ok.cons (Nat.mod_lt _ (by omega)) (Ok.cons (by omega) Ok.nil)
theorem sl_two (w : World) (m : Nat) (h : m < 18446744073709551616) :
  Sl (w.alloc (.cells #[.int .u32 ((m % 4294967296 : Nat) : Int), .int .u32 ((m / 4294967296 : Nat) : Int)] 37)) (some ⟨w.heap.size, 0, none⟩) 2 2 [m % 4294967296, m / 4294967296] :=
 ⟨rfl, Nat.le_refl _, by unfold maxLen; omega, (fun e => by cases e), ok_two m h, Blk.limbs (show Blk _ _ [m % 4294967296, m / 4294967296] from heap_alloc_last _ _)⟩
theorem neg_wrap (m : Nat) (h0 : 0 < m) (h : m ≤ 9223372036854775808) : IntKind.u64.wrap (-IntKind.u64.wrap (-(m : Int))) = (m : Int) := by
 have e1 : IntKind.u64.wrap (-(m : Int)) = 18446744073709551616 - (m : Int) := by
  rw [IntKind.wrap_u64]
  omega
 rw [e1, IntKind.wrap_u64]
 omega

set_option maxHeartbeats 1000000 in
theorem zof_c (w : World) (x : Int) (h1 : -9223372036854775808 ≤ x) (h2 : x < 9223372036854775808) :
    Calls Try.prog 24 #[.int .i64 x] w fun e w' => ∃ r cr, e = .returned (.agg #[.bool (ng x), .slice r (digs x.natAbs).length cr]) ∧ Za w w' r cr x := by
  obtain ⟨W, g, hg, hW, c00, c01, HI⟩ := enter0 w
  obtain ⟨m, hm⟩ : ∃ m, x.natAbs = m := ⟨_, rfl⟩
  have hmb : m ≤ 9223372036854775808 := by omega
  have SL := sl_two W m (by omega)
  have hv := val_two m (by omega)
  obtain ⟨lo, hlo⟩ : ∃ lo, m % 4294967296 = lo := ⟨_, rfl⟩
  obtain ⟨hi, hhi⟩ : ∃ hi, m / 4294967296 = hi := ⟨_, rfl⟩
  rw [hlo, hhi] at SL hv
  have e1 : (m : Int) % 4294967296 = (lo : Int) := by omega
  have e2 : (m : Int) / 4294967296 = (hi : Int) := by omega
  have hhb : hi < 4294967296 := by omega
  have B1 := below_alloc W (.cells #[.int .u32 (lo : Int), .int .u32 (hi : Int)] 37)
  have FX := fun (s : Bool) => zform_c _ s _ 2 2 [lo, hi] SL (by omega)
  rw [hv] at FX
  have tail : ∀ (s : Bool), sg s m = x → Hid (Calls Try.prog 43 #[.agg #[.bool s, .slice (some ⟨W.heap.size, 0, none⟩) 2 2]] (W.alloc (.cells #[.int .u32 (lo : Int), .int .u32 (hi : Int)] 37)) fun e w' => ∃ r cr, e = .returned (.agg #[.bool (ng x), .slice r (digs x.natAbs).length cr]) ∧ Za (W.alloc (.cells #[.int .u32 (lo : Int), .int .u32 (hi : Int)] 37)) w' r cr x) := by
    intro s e
    have := FX s
    rw [e] at this
    exact this
  obtain ⟨W1, hW1⟩ : ∃ W1, W.alloc (.cells #[.int .u32 (lo : Int), .int .u32 (hi : Int)] 37) = W1 := ⟨_, rfl⟩
  rw [hW1] at tail B1
  obtain ⟨b, hb⟩ : ∃ b, ng x = b := ⟨_, rfl⟩
  obtain ⟨L, hL⟩ : ∃ L, (digs x.natAbs).length = L := ⟨_, rfl⟩
  rw [hb, hL] at tail ⊢
  have HB1 := hid B1
  clear SL FX hv B1 hb hL hlo hhi
  by_cases h0 : x < 0
  · have T := tail true (by unfold sg; simp; omega)
    clear tail
    obtain rfl : x = -(m : Int) := by omega
    have ew := neg_wrap m (by omega) hmb
    go_enter Try.func24, Try.ntmps24
    go_wp2_with fail
    refine T.out.mono ?_
    rintro e w1 ⟨r, cr, rfl, A⟩
    have hI2 := hid (HI.out.call ((HB1.out.trans (A.below.mono HB1.out.size))))
    have hAs := hid A.sl
    have hAf := hid A.fresh
    have hs1 := HB1.out.size
    clear A
    obtain ⟨b3, r3, n3, c3, hx3⟩ := hI2.out.box
    have k0 := hx3.at0
    have k1 := hx3.at1
    have k2 := hx3.frozen 0
    have k3 := hx3.frozen 1
    go_wp2
    have hc0 := (hx3.set b r L cr).at0
    have hc1 := (hx3.set b r L cr).at1
    refine bodyPost_ret (by simp [results, Try.results24, go_sem, hc0, hc1]; try rfl) rfl ?_
    exact ⟨r, cr, rfl, hI2.out.fin (w1 := w) hAs.out (fun b o e => Nat.lt_of_lt_of_le HI.out.lt (Nat.le_trans hs1 (hAf.out b o e))) _ _⟩
  · have T := tail false (by unfold sg; simp; omega)
    clear tail
    obtain rfl : x = (m : Int) := by omega
    go_enter Try.func24, Try.ntmps24
    go_wp2_with fail
    refine T.out.mono ?_
    rintro e w1 ⟨r, cr, rfl, A⟩
    have hI2 := hid (HI.out.call ((HB1.out.trans (A.below.mono HB1.out.size))))
    have hAs := hid A.sl
    have hAf := hid A.fresh
    have hs1 := HB1.out.size
    clear A
    obtain ⟨b3, r3, n3, c3, hx3⟩ := hI2.out.box
    have k0 := hx3.at0
    have k1 := hx3.at1
    have k2 := hx3.frozen 0
    have k3 := hx3.frozen 1
    go_wp2
    have hc0 := (hx3.set b r L cr).at0
    have hc1 := (hx3.set b r L cr).at1
    refine bodyPost_ret (by simp [results, Try.results24, go_sem, hc0, hc1]; try rfl) rfl ?_
    exact ⟨r, cr, rfl, hI2.out.fin (w1 := w) hAs.out (fun b o e => Nat.lt_of_lt_of_le HI.out.lt (Nat.le_trans hs1 (hAf.out b o e))) _ _⟩

set_option maxHeartbeats 1000000 in
theorem zrof_c (w : World) (x : Int) (h1 : -9223372036854775808 ≤ x) (h2 : x < 9223372036854775808) :
    Calls Try.prog 13 #[.int .i64 x] w fun e w' => ∃ r cr, e = .returned (.agg #[.bool (ng x), .slice r (digs x.natAbs).length cr]) ∧ Za w w' r cr x := by
  obtain ⟨W, g, hg, hW, c00, c01, HI⟩ := enter0 w
  obtain ⟨m, hm⟩ : ∃ m, x.natAbs = m := ⟨_, rfl⟩
  have hmb : m ≤ 9223372036854775808 := by omega
  have SL := sl_two W m (by omega)
  have hv := val_two m (by omega)
  obtain ⟨lo, hlo⟩ : ∃ lo, m % 4294967296 = lo := ⟨_, rfl⟩
  obtain ⟨hi, hhi⟩ : ∃ hi, m / 4294967296 = hi := ⟨_, rfl⟩
  rw [hlo, hhi] at SL hv
  have e1 : (m : Int) % 4294967296 = (lo : Int) := by omega
  have e2 : (m : Int) / 4294967296 = (hi : Int) := by omega
  have hhb : hi < 4294967296 := by omega
  have B1 := below_alloc W (.cells #[.int .u32 (lo : Int), .int .u32 (hi : Int)] 37)
  have FX := fun (s : Bool) => made_c _ s _ 2 2 [lo, hi] SL (by omega)
  rw [hv] at FX
  have tail : ∀ (s : Bool), sg s m = x → Hid (Calls Try.prog 28 #[.bool s, .slice (some ⟨W.heap.size, 0, none⟩) 2 2] (W.alloc (.cells #[.int .u32 (lo : Int), .int .u32 (hi : Int)] 37)) fun e w' => ∃ r cr, e = .returned (.agg #[.bool (ng x), .slice r (digs x.natAbs).length cr]) ∧ Za (W.alloc (.cells #[.int .u32 (lo : Int), .int .u32 (hi : Int)] 37)) w' r cr x) := by
    intro s e
    have := FX s
    rw [e] at this
    exact this
  obtain ⟨W1, hW1⟩ : ∃ W1, W.alloc (.cells #[.int .u32 (lo : Int), .int .u32 (hi : Int)] 37) = W1 := ⟨_, rfl⟩
  rw [hW1] at tail B1
  obtain ⟨b, hb⟩ : ∃ b, ng x = b := ⟨_, rfl⟩
  obtain ⟨L, hL⟩ : ∃ L, (digs x.natAbs).length = L := ⟨_, rfl⟩
  rw [hb, hL] at tail ⊢
  have HB1 := hid B1
  clear SL FX hv B1 hb hL hlo hhi
  by_cases h0 : x < 0
  · have T := tail true (by unfold sg; simp; omega)
    clear tail
    obtain rfl : x = -(m : Int) := by omega
    have ew := neg_wrap m (by omega) hmb
    go_enter Try.func13, Try.ntmps13
    go_wp2_with fail
    refine T.out.mono ?_
    rintro e w1 ⟨r, cr, rfl, A⟩
    have hI2 := hid (HI.out.call ((HB1.out.trans (A.below.mono HB1.out.size))))
    have hAs := hid A.sl
    have hAf := hid A.fresh
    have hs1 := HB1.out.size
    clear A
    obtain ⟨b3, r3, n3, c3, hx3⟩ := hI2.out.box
    have k0 := hx3.at0
    have k1 := hx3.at1
    have k2 := hx3.frozen 0
    have k3 := hx3.frozen 1
    go_wp2
    have hc0 := (hx3.set b r L cr).at0
    have hc1 := (hx3.set b r L cr).at1
    refine bodyPost_ret (by simp [results, Try.results13, go_sem, hc0, hc1]; try rfl) rfl ?_
    exact ⟨r, cr, rfl, hI2.out.fin (w1 := w) hAs.out (fun b o e => Nat.lt_of_lt_of_le HI.out.lt (Nat.le_trans hs1 (hAf.out b o e))) _ _⟩
  · have T := tail false (by unfold sg; simp; omega)
    clear tail
    obtain rfl : x = (m : Int) := by omega
    go_enter Try.func13, Try.ntmps13
    go_wp2_with fail
    refine T.out.mono ?_
    rintro e w1 ⟨r, cr, rfl, A⟩
    have hI2 := hid (HI.out.call ((HB1.out.trans (A.below.mono HB1.out.size))))
    have hAs := hid A.sl
    have hAf := hid A.fresh
    have hs1 := HB1.out.size
    clear A
    obtain ⟨b3, r3, n3, c3, hx3⟩ := hI2.out.box
    have k0 := hx3.at0
    have k1 := hx3.at1
    have k2 := hx3.frozen 0
    have k3 := hx3.frozen 1
    go_wp2
    have hc0 := (hx3.set b r L cr).at0
    have hc1 := (hx3.set b r L cr).at1
    refine bodyPost_ret (by simp [results, Try.results13, go_sem, hc0, hc1]; try rfl) rfl ?_
    exact ⟨r, cr, rfl, hI2.out.fin (w1 := w) hAs.out (fun b o e => Nat.lt_of_lt_of_le HI.out.lt (Nat.le_trans hs1 (hAf.out b o e))) _ _⟩
end Go.Proofs.Ytcbkmmkmffnfdaa
