/-
  zint's products, and the document's: with the way through a statement that draws its order.
-/
import Derived.Test.YtoplejeljmpcpaaDoorSetZ
import Derived.Test.YtoplejeljmpcpaaDoorSetA
import Derived.Test.YtoplejeljmpcpaaDoorSetC
namespace Go.Proofs.YtoplejeljmpcpaaDoor
open Go.RowKit Nt
set_option linter.unusedSimpArgs false
set_option linter.unusedVariables false
set_option maxRecDepth 20000

set_option maxHeartbeats 4000000 in
theorem zmul_c (w : World) (s t : Bool) (p q : Option Addr) (n c m d : Nat) (xs ys : List Nat) (h : Sl w p n c xs) (h' : Sl w q m d ys) (hs : n + m ≤ 70368744177664) :
    Calls Tryd.prog 19 #[.agg #[.bool s, .slice p n c], .agg #[.bool t, .slice q m d]] w fun e w' => ∃ r cr, e = .returned (.agg #[.bool (ng (sg s (val xs) * sg t (val ys))), .slice r (digs (sg s (val xs) * sg t (val ys)).natAbs).length cr]) ∧ Za w w' r cr (sg s (val xs) * sg t (val ys)) := by
  obtain ⟨W, g, hg, hW, c10, c11, c20, c21, _, _, HI⟩ := enter2 w s p n c t q m d
  have HX := hid h
  have HY := hid h'
  have n0 : g + 1 + 1 ≠ g := by omega
  have n1 : g + 1 + 1 ≠ g + 1 := by omega
  rw [← sg_mul]
  clear h h'
  go_enter Tryd.func19, Tryd.ntmps19
  go_wp2
  go_region_held3 (fun w' => w'.cell? ⟨g, 0, none⟩ = some (.bool s) ∧ w'.cell? ⟨g, 1, none⟩ = some (.slice p n c) ∧ w'.cell? ⟨g + 1, 0, none⟩ = some (.bool t) ∧ w'.cell? ⟨g + 1, 1, none⟩ = some (.slice q m d) ∧ Hid (Inv w w' (g + 1 + 1)))
    (first | exact keepS (by assumption) hBz | exact keepSet (by assumption) n0 n0 n1 n1 | (exact ⟨c10, c11, c20, c21, HI.out.drew⟩))
    (first | (go_at_call 39; refine (mul_c _ p q n c m d xs ys (HX.out.below (invOf (by assumption)).below) (HY.out.below (invOf (by assumption)).below) hs).mono ?_; rintro e w1 ⟨r, cr, rfl, R1⟩; have hBz := R1.below; have HL := hid (fun b o (e : r = some ⟨b, o, none⟩) => Nat.lt_of_lt_of_le (invOf (w := w) (g2 := g + 1 + 1) (by assumption)).lt (R1.own b o e).2.1))
           | (go_at_call 28; refine (signed_c _ (s != t) r _ cr (Nat.le_trans R1.sl.cap R1.sl.max)).mono ?_; rintro e w2 ⟨rfl, hBz⟩; have hI2 := hid ((invOf (w := w) (g2 := g + 1 + 1) (by assumption)).call hBz); obtain ⟨b3, r3, n3, c3, hx3⟩ := hI2.out.box; have k0 := hx3.at0; have k1 := hx3.at1; have k2 := hx3.frozen 0; have k3 := hx3.frozen 1))
  go_wp2
  have hc0 := (hx3.set (s != t && decide (0 < (digs (val xs * val ys)).length)) r (digs (val xs * val ys)).length cr).at0
  have hc1 := (hx3.set (s != t && decide (0 < (digs (val xs * val ys)).length)) r (digs (val xs * val ys)).length cr).at1
  refine bodyPost_ret (by simp [results, Tryd.results19, go_sem, hc0, hc1]; try rfl) rfl ?_
  refine ⟨r, cr, by rw [sg_abs, ← sg_ng], ?_⟩
  refine hI2.out.fin (w1 := w) ?_ HL.out _ _
  rw [sg_abs]
  exact R1.sl.below hBz
end Go.Proofs.YtoplejeljmpcpaaDoor
