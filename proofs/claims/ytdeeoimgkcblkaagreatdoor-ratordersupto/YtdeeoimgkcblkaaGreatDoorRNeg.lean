/-
  The document's negative of a rational that may be.
-/
import Derived.Test.YtdeeoimgkcblkaaGreatDoorRArith
namespace Go.Proofs.YtdeeoimgkcblkaaGreatDoor
open Go.RowKit Nt
set_option linter.unusedSimpArgs false
set_option linter.unusedVariables false
set_option maxRecDepth 20000

set_option maxHeartbeats 1000000 in
theorem rneg_c (w : World) (s : Bool) (p q : Option Addr) (n c m d : Nat) (xs ys : List Nat) (h : Sl w p n c xs) (h' : Sl w q m d ys) (hy : val ys ≠ 0) (hs : n + 1 ≤ 35184372088831) (hs' : m + 1 ≤ 35184372088831) :
    Calls Tryz.prog 32 #[.agg #[.bool s, .slice p n c, .bool false, .slice q m d]] w (Rt w (nR (-sg s (val xs)) (val ys)) (dR (-sg s (val xs)) (val ys)) n m) := by
  rw [← sg_not, nR_sg, dR_sg]
  obtain ⟨W, g, hg, hW, d1, d2, d3, d4, HI⟩ := renter1 w s p n c false q m d
  have HY := hid h'
  have m0 : g + 1 ≠ g := by omega
  have NG : Hid (∀ W', Below w.heap.size w W' → Calls Tryz.prog 48 #[.agg #[.bool s, .slice p n c]] W' fun e w' => ∃ b L r cr, e = .returned (.agg #[.bool b, .slice r L cr]) ∧ Below W'.heap.size W' w' ∧ Sl w' r L cr (digs (val xs)) ∧ L ≤ n ∧ b = ng (sg (!s) (val xs))) := by
    intro W' hb
    have := zrneg_c W' s p n c xs (h.below hb) (by omega)
    rw [← sg_not] at this
    refine this.mono ?_
    rintro e w' ⟨r, cr, rfl, Z⟩
    have hz := Z.sl
    rw [sg_abs] at hz ⊢
    exact ⟨_, _, r, cr, rfl, Z.below, hz, h.dl, rfl⟩
  have MK : Hid (∀ W' (b : Bool) (L : Nat) (r : Option Addr) (cr : Nat), Below w.heap.size w W' → Sl W' r L cr (digs (val xs)) → L ≤ n → b = ng (sg (!s) (val xs)) → Calls Tryz.prog 46 #[.agg #[.bool b, .slice r L cr], .agg #[.bool false, .slice q m d]] W' (Rt W' (sg (!s) (val xs / Nat.gcd (val xs) (val ys))) (val ys / Nat.gcd (val xs) (val ys)) n m)) := by
    intro W' b L r cr hb hr hl e
    have := rmake_c W' b r q L cr m d (digs (val xs)) ys hr (h'.below hb) hy (by omega) hs'
    rw [val_digs, show sg b (val xs / Nat.gcd (val xs) (val ys)) = sg (!s) (val xs / Nat.gcd (val xs) (val ys)) from by rw [e]; exact sg_same _ _ _] at this
    refine this.mono ?_
    rintro e w' ⟨b1, L1, D1, r1, k1, L2, r2, k2, h1, h2, h3, h4, h5, h6, h7, h8, h9⟩
    exact ⟨b1, L1, D1, r1, k1, L2, r2, k2, h1, h2, h3, h4, h5, Nat.le_trans h6 hl, h7, h8, h9⟩
  generalize sg (!s) (val xs / Nat.gcd (val xs) (val ys)) = NN at *
  generalize val ys / Nat.gcd (val xs) (val ys) = DD at *
  clear h h' hy
  go_enter Tryz.func32, Tryz.ntmps32
  go_wp2
  go_region_with (first | (go_at_call 48; refine (NG.out _ HI.out.below.drew).mono ?_; rintro e w1 ⟨b1, L1, r1, k1, rfl, hBz, hS1, hl1, hb1⟩; have HS1 := hid hS1; have HB1 := hid hb1; clear hb1 hS1; have f3 := cell_below (w := W.drew) d3 hBz; have f4 := cell_below (w := W.drew) d4 hBz; have HI1 := hid (HI.out.drew.call hBz))
                        | (go_at_call 46; refine (MK.out _ b1 L1 r1 k1 HI1.out.below HS1.out hl1 HB1.out).mono ?_; rintro e w2 ⟨b2, L2, D2, r2, k2, L3, r3, k3, rfl, hBz, S2, S3, M2, l2, l3, f2, f3'⟩; have hlt := hid HI1.out.lt; have hI2 := hid (HI1.out.call hBz); obtain ⟨x1, x2, x3, x4, x5, x6, x7, x8, hx3⟩ := hI2.out.box; have k0 := hx3.at0; have k1 := hx3.at1; have k2' := hx3.at2; have k3' := hx3.at3; have k4 := hx3.frozen 0; have k5 := hx3.frozen 1; have k6 := hx3.frozen 2; have k7 := hx3.frozen 3))
  all_goals
    go_wp2
    have hc := hx3.set b2 r2 L2 k2 false r3 L3 k3
    have hc0 := hc.at0
    have hc1 := hc.at1
    have hc2 := hc.at2
    have hc3 := hc.at3
    refine bodyPost_ret (by simp [results, Tryz.results32, go_sem, hc0, hc1, hc2, hc3]; try rfl) rfl ?_
    exact rt_end hI2.out hlt.out S2 S3 M2 l2 l3 f2 f3'
end Go.Proofs.YtdeeoimgkcblkaaGreatDoor
