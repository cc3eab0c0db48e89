import Derived.Test.YtddjoigjdolafaaGreatRsD
import Derived.Test.YtddjoigjdolafaaGreatRsF
/-
  Make of a numerator and a denominator by their names, of either sign; the denominators' product.
-/
namespace Go.Proofs.YtddjoigjdolafaaGreat
open Go.RowKit Nt
set_option linter.unusedSimpArgs false
set_option linter.unusedVariables false
set_option maxRecDepth 20000

/-- The numerator, once the denominator's sign is taken away. -/
def sw (t : Bool) (P : Int) : Int := if t then -P else P

theorem den_nm {b : Bool} {L : Nat} {D : List Nat} {t : Bool} {y x : Nat} (h : Nm b L D (sg false y * sg t x)) (h0 : y * x ≠ 0) : b = t ∧ D = digs (y * x) := by
  have e : sg false y * sg t x = sg t (y * x) := by cases t <;> simp [sg, Int.mul_neg]
  rw [e] at h
  refine ⟨?_, by rw [h.dgs, sg_abs]⟩
  rw [h.sgn]
  generalize y * x = z at h0
  unfold ng sg
  cases t with
  | false => simp
  | true => simp; omega
theorem rmake_any (W : World) (t b : Bool) (L : Nat) (D : List Nat) (r : Option Addr) (cr L' : Nat) (r' : Option Addr) (cr' : Nat) (P : Int) (Y : Nat) (hr : Sl W r L cr D) (hN : Nm b L D P) (hr' : Sl W r' L' cr' (digs Y)) (hY : Y ≠ 0) (hl : L ≤ 67108864) (hl' : L' ≤ 67108864) :
    Calls Tryz.prog 106 #[.agg #[.bool b, .slice r L cr], .agg #[.bool t, .slice r' L' cr']] W (Rt W (nR (sw t P) Y) (dR (sw t P) Y) 67108864 67108864) := by
  have key : Calls Tryz.prog 106 #[.agg #[.bool b, .slice r L cr], .agg #[.bool t, .slice r' L' cr']] W (Rt W (nR (sw t P) Y) (dR (sw t P) Y) L L') := by
    cases t with
    | false =>
      have := rmake_c W b r r' L cr L' cr' D (digs Y) hr hr' (by rw [val_digs]; exact hY) (by omega) (by omega)
      rw [val_digs, ← nR_sg, ← dR_sg b, hN.sg] at this
      exact this
    | true =>
      have := rmake_neg W b r r' L cr L' cr' D (digs Y) hr hr' (by rw [val_digs]; exact hY) (by omega) (by omega)
      rw [val_digs, ← nR_sg, ← dR_sg (!b), sg_not, hN.sg] at this
      exact this
  refine key.mono ?_
  rintro e w' ⟨b1, L1, D1, r1, k1, L2, r2, k2, z1, z2, z3, z4, z5, z6, z7, z8, z9⟩
  exact ⟨b1, L1, D1, r1, k1, L2, r2, k2, z1, z2, z3, z4, z5, by omega, by omega, z8, z9⟩
end Go.Proofs.YtddjoigjdolafaaGreat

/-
  rat.Make and rat.lowest of a numerator and a denominator by their names.
-/
namespace Go.Proofs.YtddjoigjdolafaaGreat
open Go.RowKit Nt
set_option linter.unusedSimpArgs false
set_option linter.unusedVariables false
set_option maxRecDepth 20000

end Go.Proofs.YtddjoigjdolafaaGreat

/-
  rat.Mul and rat.Div.
-/
namespace Go.Proofs.YtddjoigjdolafaaGreat
open Go.RowKit Nt
set_option linter.unusedSimpArgs false
set_option linter.unusedVariables false
set_option maxRecDepth 20000

end Go.Proofs.YtddjoigjdolafaaGreat

/-
  The document's product and quotient of two rationals that may be.
-/
namespace Go.Proofs.YtddjoigjdolafaaGreat
open Go.RowKit Nt
set_option linter.unusedSimpArgs false
set_option linter.unusedVariables false
set_option maxRecDepth 20000

set_option maxHeartbeats 8000000 in
theorem rrmul_c (w : World) (s1 : Bool) (p1 : Option Addr) (n1 c1 : Nat) (xs1 : List Nat) (q1 : Option Addr) (m1 d1 : Nat) (ys1 : List Nat) (s2 : Bool) (p2 : Option Addr) (n2 c2 : Nat) (xs2 : List Nat) (q2 : Option Addr) (m2 d2 : Nat) (ys2 : List Nat)
    (h1 : Sl w p1 n1 c1 xs1) (g1 : Sl w q1 m1 d1 ys1) (h2 : Sl w p2 n2 c2 xs2) (g2 : Sl w q2 m2 d2 ys2) (y1 : val ys1 ≠ 0) (y2 : val ys2 ≠ 0) (b1 : n1 ≤ 8388608) (b2 : m1 ≤ 8388608) (b3 : n2 ≤ 8388608) (b4 : m2 ≤ 8388608) :
    Calls Tryz.prog 78 #[.agg #[.bool s1, .slice p1 n1 c1, .bool false, .slice q1 m1 d1], .agg #[.bool s2, .slice p2 n2 c2, .bool false, .slice q2 m2 d2]] w (Rt w (nR (sw false (sg s1 (val xs1) * sg s2 (val xs2))) (val ys1 * val ys2)) (dR (sw false (sg s1 (val xs1) * sg s2 (val xs2))) (val ys1 * val ys2)) 67108864 67108864) := by
  obtain ⟨W, g, hg, hW, a0, a1, a2, a3, e0, e1, e2, e3, HI⟩ := renter2 w s1 p1 n1 c1 false q1 m1 d1 s2 p2 n2 c2 false q2 m2 d2
  have y0 : val ys1 * val ys2 ≠ 0 := Nat.mul_ne_zero y1 y2
  have M1 : Hid (∀ W', Below w.heap.size w W' → _) := fun W' hb => rmul_g W' s1 s2 p1 p2 n1 c1 n2 c2 xs1 xs2 _ _ rfl rfl (h1.below hb) (h2.below hb) (by omega)
  have M2 : Hid (∀ W', Below w.heap.size w W' → Calls Tryz.prog 44 #[.agg #[.bool false, .slice q1 m1 d1], .agg #[.bool false, .slice q2 m2 d2]] W' fun e w' => ∃ L r cr, e = .returned (.agg #[.bool false, .slice r L cr]) ∧ Below W'.heap.size W' w' ∧ Hid (Sl w' r L cr (digs (val ys1 * val ys2))) ∧ L ≤ m1 + m2) := by
    intro W' hb
    refine (rmul_g W' false false q1 q2 m1 d1 m2 d2 ys1 ys2 _ _ rfl rfl (g1.below hb) (g2.below hb) (by omega)).mono ?_
    rintro e w' ⟨b, L, D, r, cr, rfl, z1, z2, z3, z4⟩
    obtain ⟨rfl, rfl⟩ := den_nm z3.out y0
    exact ⟨L, r, cr, rfl, z1, z2, z4⟩
  have MK := hid (fun (W' : World) (b : Bool) (L : Nat) (D : List Nat) (r : Option Addr) (cr L' : Nat) (r' : Option Addr) (cr' : Nat) (u1 : Sl W' r L cr D) (u2 : Nm b L D (sg s1 (val xs1) * sg s2 (val xs2))) (u3 : Sl W' r' L' cr' (digs (val ys1 * val ys2))) (l : L ≤ 67108864) (l' : L' ≤ 67108864) => rmake_any W' false b L D r cr L' r' cr' (sg s1 (val xs1) * sg s2 (val xs2)) (val ys1 * val ys2) u1 u2 u3 y0 l l')
  generalize (sg s1 (val xs1) * sg s2 (val xs2)) = P at *
  generalize (val ys1 * val ys2) = Y at *
  clear h1 g1 h2 g2 y1 y2 y0
  have u0 : g + 1 + 1 ≠ g := by omega
  have u1 : g + 1 + 1 ≠ g + 1 := by omega
  go_enter Tryz.func78, Tryz.ntmps78
  go_wp2
  go_region_held3 (fun w' => w'.cell? ⟨g, 0, none⟩ = some (.bool s1) ∧ w'.cell? ⟨g, 1, none⟩ = some (.slice p1 n1 c1) ∧ w'.cell? ⟨g, 2, none⟩ = some (.bool false) ∧ w'.cell? ⟨g, 3, none⟩ = some (.slice q1 m1 d1) ∧ w'.cell? ⟨g + 1, 0, none⟩ = some (.bool s2) ∧ w'.cell? ⟨g + 1, 1, none⟩ = some (.slice p2 n2 c2) ∧ w'.cell? ⟨g + 1, 2, none⟩ = some (.bool false) ∧ w'.cell? ⟨g + 1, 3, none⟩ = some (.slice q2 m2 d2) ∧ Hid (RInv w w' (g + 1 + 1)))
    (first | (with_reducible exact keepR8 (by assumption) hBz) | (with_reducible exact keepR8s (by assumption) u0 u0 u0 u0 u1 u1 u1 u1) | (exact ⟨a0, a1, a2, a3, e0, e1, e2, e3, HI.out.drew⟩) | fail)
    (first | (go_at_call_of 44 (Value.slice p1 n1 c1); refine (M1.out _ (invR8 (by assumption)).below).mono ?_; rintro e wa ⟨bs, Ls, Ds, rs, ks, rfl, hBz, Ss, Ns, ls⟩)
           | (go_at_call_of 44 (Value.slice q1 m1 d1); refine (M2.out _ (invR8 (by assumption)).below).mono ?_; rintro e wb ⟨Ld, rd, kd, rfl, hBz, Sd, ld⟩; have Ss2 := hid (Ss.out.below hBz))
           | (go_at_call 106; refine (MK.out _ bs Ls Ds rs ks Ld rd kd Ss2.out Ns.out Sd.out (by omega) (by omega)).mono ?_; rintro e w9 ⟨b2, L2, D2, r2, k2, L3, r3, k3, rfl, hBz, S2, S3, N2, l2, l3, f2, f3⟩; have hlt := hid (RInv.lt (invR8 (w := w) (g2 := g + 1 + 1) (by assumption))); have hI2 := hid ((invR8 (w := w) (g2 := g + 1 + 1) (by assumption)).call hBz); obtain ⟨i1, i2, i3, i4, i5, i6, i7, i8, hx3⟩ := hI2.out.box; have k0 := hx3.at0; have k1 := hx3.at1; have k2' := hx3.at2; have k3' := hx3.at3; have k4 := hx3.frozen 0; have k5 := hx3.frozen 1; have k6 := hx3.frozen 2; have k7 := hx3.frozen 3))
  go_wp2
  have hc := hx3.set b2 r2 L2 k2 false r3 L3 k3
  have hc0 := hc.at0
  have hc1 := hc.at1
  have hc2 := hc.at2
  have hc3 := hc.at3
  refine bodyPost_ret (by simp [results, Tryz.results78, go_sem, hc0, hc1, hc2, hc3]; try rfl) rfl ?_
  exact rt_end hI2.out hlt.out S2 S3 N2 l2 l3 f2 f3

set_option maxHeartbeats 8000000 in
theorem rrdiv_c (w : World) (s1 : Bool) (p1 : Option Addr) (n1 c1 : Nat) (xs1 : List Nat) (q1 : Option Addr) (m1 d1 : Nat) (ys1 : List Nat) (s2 : Bool) (p2 : Option Addr) (n2 c2 : Nat) (xs2 : List Nat) (q2 : Option Addr) (m2 d2 : Nat) (ys2 : List Nat)
    (h1 : Sl w p1 n1 c1 xs1) (g1 : Sl w q1 m1 d1 ys1) (h2 : Sl w p2 n2 c2 xs2) (g2 : Sl w q2 m2 d2 ys2) (y1 : val ys1 ≠ 0) (y2 : val xs2 ≠ 0) (b1 : n1 ≤ 8388608) (b2 : m1 ≤ 8388608) (b3 : n2 ≤ 8388608) (b4 : m2 ≤ 8388608) :
    Calls Tryz.prog 79 #[.agg #[.bool s1, .slice p1 n1 c1, .bool false, .slice q1 m1 d1], .agg #[.bool s2, .slice p2 n2 c2, .bool false, .slice q2 m2 d2]] w (Rt w (nR (sw s2 (sg s1 (val xs1) * sg false (val ys2))) (val ys1 * val xs2)) (dR (sw s2 (sg s1 (val xs1) * sg false (val ys2))) (val ys1 * val xs2)) 67108864 67108864) := by
  obtain ⟨W, g, hg, hW, a0, a1, a2, a3, e0, e1, e2, e3, HI⟩ := renter2 w s1 p1 n1 c1 false q1 m1 d1 s2 p2 n2 c2 false q2 m2 d2
  have y0 : val ys1 * val xs2 ≠ 0 := Nat.mul_ne_zero y1 y2
  have M1 : Hid (∀ W', Below w.heap.size w W' → _) := fun W' hb => rmul_g W' s1 false p1 q2 n1 c1 m2 d2 xs1 ys2 _ _ rfl rfl (h1.below hb) (g2.below hb) (by omega)
  have M2 : Hid (∀ W', Below w.heap.size w W' → Calls Tryz.prog 44 #[.agg #[.bool false, .slice q1 m1 d1], .agg #[.bool s2, .slice p2 n2 c2]] W' fun e w' => ∃ L r cr, e = .returned (.agg #[.bool s2, .slice r L cr]) ∧ Below W'.heap.size W' w' ∧ Hid (Sl w' r L cr (digs (val ys1 * val xs2))) ∧ L ≤ m1 + n2) := by
    intro W' hb
    refine (rmul_g W' false s2 q1 p2 m1 d1 n2 c2 ys1 xs2 _ _ rfl rfl (g1.below hb) (h2.below hb) (by omega)).mono ?_
    rintro e w' ⟨b, L, D, r, cr, rfl, z1, z2, z3, z4⟩
    obtain ⟨rfl, rfl⟩ := den_nm z3.out y0
    exact ⟨L, r, cr, rfl, z1, z2, z4⟩
  have MK := hid (fun (W' : World) (b : Bool) (L : Nat) (D : List Nat) (r : Option Addr) (cr L' : Nat) (r' : Option Addr) (cr' : Nat) (u1 : Sl W' r L cr D) (u2 : Nm b L D (sg s1 (val xs1) * sg false (val ys2))) (u3 : Sl W' r' L' cr' (digs (val ys1 * val xs2))) (l : L ≤ 67108864) (l' : L' ≤ 67108864) => rmake_any W' s2 b L D r cr L' r' cr' (sg s1 (val xs1) * sg false (val ys2)) (val ys1 * val xs2) u1 u2 u3 y0 l l')
  generalize (sg s1 (val xs1) * sg false (val ys2)) = P at *
  generalize (val ys1 * val xs2) = Y at *
  clear h1 g1 h2 g2 y1 y2 y0
  have u0 : g + 1 + 1 ≠ g := by omega
  have u1 : g + 1 + 1 ≠ g + 1 := by omega
  go_enter Tryz.func79, Tryz.ntmps79
  go_wp2
  go_region_held3 (fun w' => w'.cell? ⟨g, 0, none⟩ = some (.bool s1) ∧ w'.cell? ⟨g, 1, none⟩ = some (.slice p1 n1 c1) ∧ w'.cell? ⟨g, 2, none⟩ = some (.bool false) ∧ w'.cell? ⟨g, 3, none⟩ = some (.slice q1 m1 d1) ∧ w'.cell? ⟨g + 1, 0, none⟩ = some (.bool s2) ∧ w'.cell? ⟨g + 1, 1, none⟩ = some (.slice p2 n2 c2) ∧ w'.cell? ⟨g + 1, 2, none⟩ = some (.bool false) ∧ w'.cell? ⟨g + 1, 3, none⟩ = some (.slice q2 m2 d2) ∧ Hid (RInv w w' (g + 1 + 1)))
    (first | (with_reducible exact keepR8 (by assumption) hBz) | (with_reducible exact keepR8s (by assumption) u0 u0 u0 u0 u1 u1 u1 u1) | (exact ⟨a0, a1, a2, a3, e0, e1, e2, e3, HI.out.drew⟩) | fail)
    (first | (go_at_call_of 44 (Value.slice p1 n1 c1); refine (M1.out _ (invR8 (by assumption)).below).mono ?_; rintro e wa ⟨bs, Ls, Ds, rs, ks, rfl, hBz, Ss, Ns, ls⟩)
           | (go_at_call_of 44 (Value.slice q1 m1 d1); refine (M2.out _ (invR8 (by assumption)).below).mono ?_; rintro e wb ⟨Ld, rd, kd, rfl, hBz, Sd, ld⟩; have Ss2 := hid (Ss.out.below hBz))
           | (go_at_call 106; refine (MK.out _ bs Ls Ds rs ks Ld rd kd Ss2.out Ns.out Sd.out (by omega) (by omega)).mono ?_; rintro e w9 ⟨b2, L2, D2, r2, k2, L3, r3, k3, rfl, hBz, S2, S3, N2, l2, l3, f2, f3⟩; have hlt := hid (RInv.lt (invR8 (w := w) (g2 := g + 1 + 1) (by assumption))); have hI2 := hid ((invR8 (w := w) (g2 := g + 1 + 1) (by assumption)).call hBz); obtain ⟨i1, i2, i3, i4, i5, i6, i7, i8, hx3⟩ := hI2.out.box; have k0 := hx3.at0; have k1 := hx3.at1; have k2' := hx3.at2; have k3' := hx3.at3; have k4 := hx3.frozen 0; have k5 := hx3.frozen 1; have k6 := hx3.frozen 2; have k7 := hx3.frozen 3))
  go_wp2
  have hc := hx3.set b2 r2 L2 k2 false r3 L3 k3
  have hc0 := hc.at0
  have hc1 := hc.at1
  have hc2 := hc.at2
  have hc3 := hc.at3
  refine bodyPost_ret (by simp [results, Tryz.results79, go_sem, hc0, hc1, hc2, hc3]; try rfl) rfl ?_
  exact rt_end hI2.out hlt.out S2 S3 N2 l2 l3 f2 f3

end Go.Proofs.YtddjoigjdolafaaGreat
