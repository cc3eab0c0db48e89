import Derived.Test.YtnhfpekpdephjaaGreatSetZ
import Derived.Test.YtnhfpekpdephjaaGreatSetA
import Derived.Test.YtnhfpekpdephjaaGreatSetC
import Derived.Test.YtnhfpekpdephjaaGreatSetK
/-
 The document's made, and its calls upon one number.
-/
namespace Go.Proofs.YtnhfpekpdephjaaGreat
open Go.RowKit Nt
set_option linter.unusedSimpArgs false
set_option linter.unusedVariables false
set_option maxRecDepth 20000

set_option maxHeartbeats 2000000 in
theorem made_c (w : World) (s : Bool) (p : Option Addr) (n c : Nat) (xs : List Nat) (h : Sl w p n c xs) (hs : n ≤ 35184372088832) :
  Calls Tryz.prog 41 #[.bool s, .slice p n c] w fun e w' => ∃ r cr, e = .returned (.agg #[.bool (ng (sg s (val xs))), .slice r (digs (sg s (val xs)).natAbs).length cr]) ∧ Za w w' r cr (sg s (val xs)) := by
 obtain ⟨W, g, hg, hW, c00, c01, HI⟩ := enter0 w
 have N := rnorm_c W p n c xs (h.below HI.out.below) hs
 obtain ⟨L, hL⟩ : ∃ L, (digs (val xs)).length = L := ⟨_, rfl⟩
 rw [hL] at N
 have HN := hid N
 have HLL := hid hL
 have hpos : Hid (s && decide (0 < L)) = (s && decide (0 < L)) := rfl
 rw [sg_abs, hL, ← sg_ng' s hL]
 have hLb : L ≤ 35184372088832 := by rw [← hL]; exact Nat.le_trans h.dl hs
 clear h N hL hpos c00 c01
 have tail : ∀ (bv : Bool), (s && decide (0 < L)) = bv → Calls Tryz.prog 41 #[.bool s, .slice p n c] w fun e w' => ∃ r cr, e = .returned (.agg #[.bool bv, .slice r L cr]) ∧ Za w w' r cr (sg s (val xs)) := by
  intro bv hbv
  cases s with
  | false =>
   obtain rfl : bv = false := by simpa using hbv.symm
   go_enter Tryz.func41, Tryz.ntmps41
   go_wp2_with fail
   refine HN.out.mono ?_
   rintro e w1 ⟨r, cr, rfl, A⟩
   have hI2 := hid (HI.out.call A.below)
   obtain ⟨b3, r3, n3, c3, hx3⟩ := hI2.out.box
   have k0 := hx3.at0
   have k1 := hx3.at1
   have k2 := hx3.frozen 0
   have k3 := hx3.frozen 1
   go_wp2
   have hc0 := (hx3.set false r L cr).at0
   have hc1 := (hx3.set false r L cr).at1
   refine bodyPost_ret (by simp [results, Tryz.results41, go_sem, hc0, hc1]; try rfl) rfl ?_
   refine ⟨r, cr, rfl, hI2.out.fin (w1 := w) (by rw [sg_abs]; exact A.sl) (fun b o e => Nat.lt_of_lt_of_le HI.out.lt (A.fresh b o e)) _ _⟩
  | true =>
   by_cases h0 : 0 < L
   ·obtain rfl : bv = true := by simpa [h0] using hbv.symm
    go_enter Tryz.func41, Tryz.ntmps41
    go_wp2_with fail
    refine HN.out.mono ?_
    rintro e w1 ⟨r, cr, rfl, A⟩
    have hI2 := hid (HI.out.call A.below)
    obtain ⟨b3, r3, n3, c3, hx3⟩ := hI2.out.box
    have k0 := hx3.at0
    have k1 := hx3.at1
    have k2 := hx3.frozen 0
    have k3 := hx3.frozen 1
    go_wp2
    have hc0 := (hx3.set true r L cr).at0
    have hc1 := (hx3.set true r L cr).at1
    refine bodyPost_ret (by simp [results, Tryz.results41, go_sem, hc0, hc1]; try rfl) rfl ?_
    refine ⟨r, cr, rfl, hI2.out.fin (w1 := w) (by rw [sg_abs]; exact A.sl) (fun b o e => Nat.lt_of_lt_of_le HI.out.lt (A.fresh b o e)) _ _⟩
   ·obtain rfl : bv = false := by simpa [h0] using hbv.symm
    obtain rfl : L = 0 := by omega
    go_enter Tryz.func41, Tryz.ntmps41
    go_wp2_with fail
    refine HN.out.mono ?_
    rintro e w1 ⟨r, cr, rfl, A⟩
    have hI2 := hid (HI.out.call A.below)
    obtain ⟨b3, r3, n3, c3, hx3⟩ := hI2.out.box
    have k0 := hx3.at0
    have k1 := hx3.at1
    have k2 := hx3.frozen 0
    have k3 := hx3.frozen 1
    go_wp2
    have hc0 := (hx3.set false r 0 cr).at0
    have hc1 := (hx3.set false r 0 cr).at1
    refine bodyPost_ret (by simp [results, Tryz.results41, go_sem, hc0, hc1]; try rfl) rfl ?_
    refine ⟨r, cr, rfl, hI2.out.fin (w1 := w) (by rw [sg_abs]; exact A.sl) (fun b o e => Nat.lt_of_lt_of_le HI.out.lt (A.fresh b o e)) _ _⟩
 exact tail _ rfl

end Go.Proofs.YtnhfpekpdephjaaGreat

/-
 zint's products, and the document's: with the way through a statement that draws its order.
-/
namespace Go.Proofs.YtnhfpekpdephjaaGreat
open Go.RowKit Nt
set_option linter.unusedSimpArgs false
set_option linter.unusedVariables false
set_option maxRecDepth 20000

end Go.Proofs.YtnhfpekpdephjaaGreat

/-
 Sums, differences, products of numbers with a sign: zint's, and the document's.
-/
namespace Go.Proofs.YtnhfpekpdephjaaGreat
open Go.RowKit Nt
set_option linter.unusedSimpArgs false
set_option linter.unusedVariables false
set_option maxRecDepth 20000

end Go.Proofs.YtnhfpekpdephjaaGreat
