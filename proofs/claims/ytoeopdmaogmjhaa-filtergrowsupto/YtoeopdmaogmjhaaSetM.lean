import Derived.Test.YtoeopdmaogmjhaaSetZ
import Derived.Test.YtoeopdmaogmjhaaSetA
import Derived.Test.YtoeopdmaogmjhaaSetC
import Derived.Test.YtoeopdmaogmjhaaSetK
/-
 The document's made, and its calls upon one number.
-/
namespace Go.Proofs.Ytoeopdmaogmjhaa
open Go.RowKit Nt
set_option linter.unusedSimpArgs false
set_option linter.unusedVariables false
set_option maxRecDepth 20000

end Go.Proofs.Ytoeopdmaogmjhaa

/-
 zint's products, and the document's: with the way through a statement that draws its order.
-/
namespace Go.Proofs.Ytoeopdmaogmjhaa
open Go.RowKit Nt
set_option linter.unusedSimpArgs false
set_option linter.unusedVariables false
set_option maxRecDepth 20000

set_option maxHeartbeats 4000000 in
theorem zmul_c (w : World) (s t : Bool) (p q : Option Addr) (n c m d : Nat) (xs ys : List Nat) (h : Sl w p n c xs) (h' : Sl w q m d ys) (hs : n + m ≤ 70368744177664) :
    Calls Try.prog 25 #[.agg #[.bool s, .slice p n c], .agg #[.bool t, .slice q m d]] w fun e w' => ∃ r cr, e = .returned (.agg #[.bool (ng (sg s (val xs) * sg t (val ys))), .slice r (digs (sg s (val xs) * sg t (val ys)).natAbs).length cr]) ∧ Za w w' r cr (sg s (val xs) * sg t (val ys)) := by
  obtain ⟨W, g, hg, hW, c10, c11, c20, c21, _, _, HI⟩ := enter2 w s p n c t q m d
  have HX := hid h
  have HY := hid h'
  have n0 : g + 1 + 1 ≠ g := by omega
  have n1 : g + 1 + 1 ≠ g + 1 := by omega
  rw [← sg_mul]
  clear h h'
  go_enter Try.func25, Try.ntmps25
  go_wp2
  go_region_held3 (fun w' => w'.cell? ⟨g, 0, none⟩ = some (.bool s) ∧ w'.cell? ⟨g, 1, none⟩ = some (.slice p n c) ∧ w'.cell? ⟨g + 1, 0, none⟩ = some (.bool t) ∧ w'.cell? ⟨g + 1, 1, none⟩ = some (.slice q m d) ∧ Hid (Inv w w' (g + 1 + 1)))
    (first | exact keepS (by assumption) hBz | exact keepSet (by assumption) n0 n0 n1 n1 | (exact ⟨c10, c11, c20, c21, HI.out.drew⟩))
    (first | (go_at_call 44; refine (mul_c _ p q n c m d xs ys (HX.out.below (invOf (by assumption)).below) (HY.out.below (invOf (by assumption)).below) hs).mono ?_; rintro e w1 ⟨r, cr, rfl, R1⟩; have hBz := R1.below; have HL := hid (fun b o (e : r = some ⟨b, o, none⟩) => Nat.lt_of_lt_of_le (invOf (w := w) (g2 := g + 1 + 1) (by assumption)).lt (R1.own b o e).2.1))
           | (go_at_call 43; refine (signed_c _ (s != t) r _ cr (Nat.le_trans R1.sl.cap R1.sl.max)).mono ?_; rintro e w2 ⟨rfl, hBz⟩; have hI2 := hid ((invOf (w := w) (g2 := g + 1 + 1) (by assumption)).call hBz); obtain ⟨b3, r3, n3, c3, hx3⟩ := hI2.out.box; have k0 := hx3.at0; have k1 := hx3.at1; have k2 := hx3.frozen 0; have k3 := hx3.frozen 1))
  go_wp2
  have hc0 := (hx3.set (s != t && decide (0 < (digs (val xs * val ys)).length)) r (digs (val xs * val ys)).length cr).at0
  have hc1 := (hx3.set (s != t && decide (0 < (digs (val xs * val ys)).length)) r (digs (val xs * val ys)).length cr).at1
  refine bodyPost_ret (by simp [results, Try.results25, go_sem, hc0, hc1]; try rfl) rfl ?_
  refine ⟨r, cr, by rw [sg_abs, ← sg_ng], ?_⟩
  refine hI2.out.fin (w1 := w) ?_ HL.out _ _
  rw [sg_abs]
  exact R1.sl.below hBz
end Go.Proofs.Ytoeopdmaogmjhaa

/-
 Sums, differences, products of numbers with a sign: zint's, and the document's.
-/
namespace Go.Proofs.Ytoeopdmaogmjhaa
open Go.RowKit Nt
set_option linter.unusedSimpArgs false
set_option linter.unusedVariables false
set_option maxRecDepth 20000

set_option maxHeartbeats 4000000 in
theorem zadd_same (w : World) (s : Bool) (p q : Option Addr) (n c m d : Nat) (xs ys : List Nat) (h : Sl w p n c xs) (h' : Sl w q m d ys) (hs : n ≤ 70368744177663) (hs' : m ≤ 70368744177663) :
    Calls Try.prog 42 #[.agg #[.bool s, .slice p n c], .agg #[.bool s, .slice q m d]] w fun e w' => ∃ r cr, e = .returned (.agg #[.bool (ng (sg s (val xs) + sg s (val ys))), .slice r (digs (sg s (val xs) + sg s (val ys)).natAbs).length cr]) ∧ Za w w' r cr (sg s (val xs) + sg s (val ys)) := by
  obtain ⟨W, g, hg, hW, c10, c11, c20, c21, _, _, HI⟩ := enter2 w s p n c s q m d
  have HX := hid h
  have HY := hid h'
  have n0 : g + 1 + 1 ≠ g := by omega
  have n1 : g + 1 + 1 ≠ g + 1 := by omega
  rw [← sg_add]
  clear h h'
  go_enter Try.func42, Try.ntmps42
  go_wp2
  go_region_held3 (fun w' => w'.cell? ⟨g, 0, none⟩ = some (.bool s) ∧ w'.cell? ⟨g, 1, none⟩ = some (.slice p n c) ∧ w'.cell? ⟨g + 1, 0, none⟩ = some (.bool s) ∧ w'.cell? ⟨g + 1, 1, none⟩ = some (.slice q m d) ∧ Hid (Inv w w' (g + 1 + 1)))
    (first | exact keepS (by assumption) hBz | exact keepSet (by assumption) n0 n0 n1 n1 | (exact ⟨c10, c11, c20, c21, HI.out.drew⟩))
    (first | (go_at_call 41; refine (add_c _ p q n c m d xs ys (HX.out.below (invOf (by assumption)).below) (HY.out.below (invOf (by assumption)).below) hs hs').mono ?_; rintro e w1 ⟨r, cr, rfl, R1⟩; have hBz := R1.below; have HL := hid (fun b o (e : r = some ⟨b, o, none⟩) => Nat.lt_of_lt_of_le (invOf (w := w) (g2 := g + 1 + 1) (by assumption)).lt (R1.own b o e).2.1))
           | (go_at_call 43; refine (signed_c _ s r _ cr (Nat.le_trans R1.sl.cap R1.sl.max)).mono ?_; rintro e w2 ⟨rfl, hBz⟩; have hI2 := hid ((invOf (w := w) (g2 := g + 1 + 1) (by assumption)).call hBz); obtain ⟨b3, r3, n3, c3, hx3⟩ := hI2.out.box; have k0 := hx3.at0; have k1 := hx3.at1; have k2 := hx3.frozen 0; have k3 := hx3.frozen 1))
  go_wp2
  have hc0 := (hx3.set (s && decide (0 < (digs (val xs + val ys)).length)) r ((digs (val xs + val ys)).length) cr).at0
  have hc1 := (hx3.set (s && decide (0 < (digs (val xs + val ys)).length)) r ((digs (val xs + val ys)).length) cr).at1
  refine bodyPost_ret (by simp [results, Try.results42, go_sem, hc0, hc1]; try rfl) rfl ?_
  refine ⟨r, cr, by rw [sg_abs, ← sg_ng], ?_⟩
  refine hI2.out.fin (w1 := w) ?_ HL.out _ _
  rw [sg_abs]
  exact R1.sl.below hBz

set_option maxHeartbeats 4000000 in
theorem zadd_ge (w : World) (s t : Bool) (p q : Option Addr) (n c m d : Nat) (xs ys : List Nat) (h : Sl w p n c xs) (h' : Sl w q m d ys) (hs : n ≤ 70368744177664) (hst : s ≠ t) (hle : val ys ≤ val xs) :
    Calls Try.prog 42 #[.agg #[.bool s, .slice p n c], .agg #[.bool t, .slice q m d]] w fun e w' => ∃ r cr, e = .returned (.agg #[.bool (ng (sg s (val xs) + sg t (val ys))), .slice r (digs (sg s (val xs) + sg t (val ys)).natAbs).length cr]) ∧ Za w w' r cr (sg s (val xs) + sg t (val ys)) := by
  obtain ⟨W, g, hg, hW, c10, c11, c20, c21, _, _, HI⟩ := enter2 w s p n c t q m d
  have HX := hid h
  have HY := hid h'
  have n0 : g + 1 + 1 ≠ g := by omega
  have n1 : g + 1 + 1 ≠ g + 1 := by omega
  rw [← sg_ge hst hle, sg_abs]
  have hbe : (s == t) = false := by simpa using hst
  have C := hid (sub_c W p q n c m d xs ys (h.below HI.out.below) (h'.below HI.out.below) hs hle)
  clear h h' hst
  go_enter Try.func42, Try.ntmps42
  go_wp2_with fail
  refine C.out.mono ?_
  rintro e w1 ⟨r, cr, rfl, R1⟩
  have hI1 := hid (HI.out.call R1.below)
  replace c10 := cell_below c10 R1.below
  replace c11 := cell_below c11 R1.below
  replace c20 := cell_below c20 R1.below
  replace c21 := cell_below c21 R1.below
  obtain ⟨L, hL⟩ : ∃ L, (digs (val xs - val ys)).length = L := ⟨_, rfl⟩
  have hsl := R1.sl
  rw [hL] at hsl ⊢
  go_wp2_with fail
  refine (signed_c _ s r L cr (Nat.le_trans hsl.cap hsl.max)).mono ?_
  rintro e w2 ⟨rfl, hB2⟩
  have hI2 := hid (hI1.out.call hB2)
  obtain ⟨b3, r3, n3, c3, hx3⟩ := hI2.out.box
  have k0 := hx3.at0
  have k1 := hx3.at1
  have k2 := hx3.frozen 0
  have k3 := hx3.frozen 1
  go_wp2
  have hc0 := (hx3.set (s && decide (0 < L)) r (L) cr).at0
  have hc1 := (hx3.set (s && decide (0 < L)) r (L) cr).at1
  refine bodyPost_ret (by simp [results, Try.results42, go_sem, hc0, hc1]; try rfl) rfl ?_
  refine ⟨r, cr, by rw [← sg_ng' s hL, hL], hI2.out.fin (w1 := w) ?_ (fun b o e => Nat.lt_of_lt_of_le HI.out.lt (R1.own b o e).2.1) _ _⟩
  rw [sg_abs]
  exact R1.sl.below hB2

set_option maxHeartbeats 4000000 in
theorem zadd_lt (w : World) (s t : Bool) (p q : Option Addr) (n c m d : Nat) (xs ys : List Nat) (h : Sl w p n c xs) (h' : Sl w q m d ys) (hs : m ≤ 70368744177664) (hst : s ≠ t) (hlt : val xs < val ys) :
    Calls Try.prog 42 #[.agg #[.bool s, .slice p n c], .agg #[.bool t, .slice q m d]] w fun e w' => ∃ r cr, e = .returned (.agg #[.bool (ng (sg s (val xs) + sg t (val ys))), .slice r (digs (sg s (val xs) + sg t (val ys)).natAbs).length cr]) ∧ Za w w' r cr (sg s (val xs) + sg t (val ys)) := by
  obtain ⟨W, g, hg, hW, c10, c11, c20, c21, _, _, HI⟩ := enter2 w s p n c t q m d
  have HX := hid h
  have HY := hid h'
  have n0 : g + 1 + 1 ≠ g := by omega
  have n1 : g + 1 + 1 ≠ g + 1 := by omega
  rw [← sg_lt hst (Nat.le_of_lt hlt), sg_abs]
  have hbe : (s == t) = false := by simpa using hst
  have C := hid (sub_below W p q n c m d xs ys (h.below HI.out.below) (h'.below HI.out.below) hlt)
  have C2 : Hid (∀ W', Below w.heap.size w W' → Calls Try.prog 61 #[.slice q m d, .slice p n c] W' fun e w' => ∃ r cr, e = .returned (.tuple #[.slice r (digs (val ys - val xs)).length cr, .int .i64 0]) ∧ Res W' w' r cr (val ys - val xs)) := fun W' hb => sub_c W' q p m d n c ys xs (HY.out.below hb) (HX.out.below hb) hs (Nat.le_of_lt hlt)
  clear h h' hst
  go_enter Try.func42, Try.ntmps42
  go_wp2_with fail
  refine C.out.mono ?_
  rintro e w0 ⟨rfl, nq, rfl⟩
  have hB0 : Below W.heap.size W (W.drewN nq) := below_drewN' (Below.refl _ _) nq
  have hI0 := hid (HI.out.call hB0)
  replace c10 := cell_below c10 hB0
  replace c11 := cell_below c11 hB0
  replace c20 := cell_below c20 hB0
  replace c21 := cell_below c21 hB0
  generalize W.drewN nq = W0 at *
  go_wp2_with fail
  refine (C2.out _ hI0.out.below).mono ?_
  rintro e w1 ⟨r, cr, rfl, R1⟩
  have hI1 := hid (hI0.out.call R1.below)
  replace c10 := cell_below c10 R1.below
  replace c11 := cell_below c11 R1.below
  replace c20 := cell_below c20 R1.below
  replace c21 := cell_below c21 R1.below
  obtain ⟨L, hL⟩ : ∃ L, (digs (val ys - val xs)).length = L := ⟨_, rfl⟩
  have hsl := R1.sl
  rw [hL] at hsl ⊢
  go_wp2_with fail
  refine (signed_c _ t r L cr (Nat.le_trans hsl.cap hsl.max)).mono ?_
  rintro e w2 ⟨rfl, hB2⟩
  have hI2 := hid (hI1.out.call hB2)
  obtain ⟨b3, r3, n3, c3, hx3⟩ := hI2.out.box
  have k0 := hx3.at0
  have k1 := hx3.at1
  have k2 := hx3.frozen 0
  have k3 := hx3.frozen 1
  go_wp2
  have hc0 := (hx3.set (t && decide (0 < L)) r (L) cr).at0
  have hc1 := (hx3.set (t && decide (0 < L)) r (L) cr).at1
  refine bodyPost_ret (by simp [results, Try.results42, go_sem, hc0, hc1]; try rfl) rfl ?_
  refine ⟨r, cr, by rw [← sg_ng' t hL, hL], hI2.out.fin (w1 := w) ?_ (fun b o e => Nat.lt_of_lt_of_le hI0.out.lt (R1.own b o e).2.1) _ _⟩
  rw [sg_abs]
  exact R1.sl.below hB2

theorem zadd_c (w : World) (s t : Bool) (p q : Option Addr) (n c m d : Nat) (xs ys : List Nat) (h : Sl w p n c xs) (h' : Sl w q m d ys) (hs : n ≤ 70368744177663) (hs' : m ≤ 70368744177663) :
  Calls Try.prog 42 #[.agg #[.bool s, .slice p n c], .agg #[.bool t, .slice q m d]] w fun e w' => ∃ r cr, e = .returned (.agg #[.bool (ng (sg s (val xs) + sg t (val ys))), .slice r (digs (sg s (val xs) + sg t (val ys)).natAbs).length cr]) ∧ Za w w' r cr (sg s (val xs) + sg t (val ys)) := by
 by_cases e : s = t
 ·subst e
  exact zadd_same w s p q n c m d xs ys h h' hs hs'
 ·by_cases hl : val ys ≤ val xs
  ·exact zadd_ge w s t p q n c m d xs ys h h' (by omega) e hl
  ·exact zadd_lt w s t p q n c m d xs ys h h' (by omega) e (by omega)

set_option maxHeartbeats 4000000 in
theorem zsub_c (w : World) (s t : Bool) (p q : Option Addr) (n c m d : Nat) (xs ys : List Nat) (h : Sl w p n c xs) (h' : Sl w q m d ys) (hs : n ≤ 70368744177663) (hs' : m ≤ 70368744177663) :
    Calls Try.prog 39 #[.agg #[.bool s, .slice p n c], .agg #[.bool t, .slice q m d]] w fun e w' => ∃ r cr, e = .returned (.agg #[.bool (ng (sg s (val xs) - sg t (val ys))), .slice r (digs (sg s (val xs) - sg t (val ys)).natAbs).length cr]) ∧ Za w w' r cr (sg s (val xs) - sg t (val ys)) := by
  obtain ⟨W, g, hg, hW, c10, c11, c20, c21, _, _, HI⟩ := enter2 w s p n c t q m d
  have HX := hid h
  have HY := hid h'
  have n0 : g + 1 + 1 ≠ g := by omega
  have n1 : g + 1 + 1 ≠ g + 1 := by omega
  have N := zadd_c W s (!t) p q n c m d xs ys (h.below HI.out.below) (h'.below HI.out.below) hs hs'
  rw [sg_not, ← Int.sub_eq_add_neg] at N
  obtain ⟨z, hz⟩ : ∃ z, sg s (val xs) - sg t (val ys) = z := ⟨_, rfl⟩
  rw [hz] at N ⊢
  obtain ⟨L, hL⟩ : ∃ L, (digs z.natAbs).length = L := ⟨_, rfl⟩
  obtain ⟨bz, hbz⟩ : ∃ bz, ng z = bz := ⟨_, rfl⟩
  rw [hL, hbz] at N ⊢
  have HN := hid N
  clear h h' N hz
  go_enter Try.func39, Try.ntmps39
  go_wp2_with fail
  refine HN.out.mono ?_
  rintro e w1 ⟨r, cr, rfl, A⟩
  have hI2 := hid (HI.out.call A.below)
  obtain ⟨b3, r3, n3, c3, hx3⟩ := hI2.out.box
  have k0 := hx3.at0
  have k1 := hx3.at1
  have k2 := hx3.frozen 0
  have k3 := hx3.frozen 1
  go_wp2
  have hc0 := (hx3.set (bz) r (L) cr).at0
  have hc1 := (hx3.set (bz) r (L) cr).at1
  refine bodyPost_ret (by simp [results, Try.results39, go_sem, hc0, hc1]; try rfl) rfl ?_
  exact ⟨r, cr, rfl, hI2.out.fin (w1 := w) A.sl (fun b o e => Nat.lt_of_lt_of_le HI.out.lt (A.fresh b o e)) _ _⟩

end Go.Proofs.Ytoeopdmaogmjhaa
