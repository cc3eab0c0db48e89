/-
  The document's sum of two rationals that may be; the difference; the order.
-/
import Derived.Test.YtdeeoimgkcblkaaGreatDoorRNeg
namespace Go.Proofs.YtdeeoimgkcblkaaGreatDoor
open Go.RowKit Nt
set_option linter.unusedSimpArgs false
set_option linter.unusedVariables false
set_option maxRecDepth 20000

set_option maxHeartbeats 8000000 in
theorem rradd_c (w : World) (s1 : Bool) (p1 : Option Addr) (n1 c1 : Nat) (xs1 : List Nat) (q1 : Option Addr) (m1 d1 : Nat) (ys1 : List Nat) (s2 : Bool) (p2 : Option Addr) (n2 c2 : Nat) (xs2 : List Nat) (q2 : Option Addr) (m2 d2 : Nat) (ys2 : List Nat)
    (h1 : Sl w p1 n1 c1 xs1) (g1 : Sl w q1 m1 d1 ys1) (h2 : Sl w p2 n2 c2 xs2) (g2 : Sl w q2 m2 d2 ys2) (y1 : val ys1 ≠ 0) (y2 : val ys2 ≠ 0) (A1 A2 : Int) (eA1 : sg s1 (val xs1) = A1) (eA2 : sg s2 (val xs2) = A2)
    (b1 : n1 ≤ 8388608) (b2 : m1 ≤ 8388608) (b3 : n2 ≤ 8388608) (b4 : m2 ≤ 8388608) :
    Calls Tryz.prog 31 #[.agg #[.bool s1, .slice p1 n1 c1, .bool false, .slice q1 m1 d1], .agg #[.bool s2, .slice p2 n2 c2, .bool false, .slice q2 m2 d2]] w (Rt w (nR (A1 * (val ys2 : Nat) + A2 * (val ys1 : Nat)) (val ys1 * val ys2)) (dR (A1 * (val ys2 : Nat) + A2 * (val ys1 : Nat)) (val ys1 * val ys2)) 67108864 67108864) := by
  obtain ⟨W, g, hg, hW, a0, a1, a2, a3, e0, e1, e2, e3, HI⟩ := renter2 w s1 p1 n1 c1 false q1 m1 d1 s2 p2 n2 c2 false q2 m2 d2
  have sgf : ∀ y : Nat, sg false y = (y : Int) := fun y => by unfold sg; simp
  have M1 := hid (rmul_g W s1 false p1 q2 n1 c1 m2 d2 xs1 ys2 A1 (val ys2 : Nat) eA1 (sgf _) (h1.below HI.out.below) (g2.below HI.out.below) (by omega))
  have M2 : Hid (∀ W', Below w.heap.size w W' → _) := fun W' hb => rmul_g W' s2 false p2 q1 n2 c2 m1 d1 xs2 ys1 A2 (val ys1 : Nat) eA2 (sgf _) (h2.below hb) (g1.below hb) (by omega)
  have DM : Hid (∀ W', Below w.heap.size w W' → Calls Tryz.prog 45 #[.agg #[.bool false, .slice q1 m1 d1], .agg #[.bool false, .slice q2 m2 d2]] W' fun e w' => ∃ L r cr, e = .returned (.agg #[.bool false, .slice r L cr]) ∧ Below W'.heap.size W' w' ∧ Hid (Sl w' r L cr (digs (val ys1 * val ys2))) ∧ L ≤ m1 + m2) := by
    intro W' hb
    refine (zrmul_c W' false false q1 q2 m1 d1 m2 d2 ys1 ys2 (g1.below hb) (g2.below hb) (by omega)).mono ?_
    rintro e w' ⟨r, cr, rfl, Z⟩
    have hz := Z.sl
    rw [Int.natAbs_mul, sg_abs, sg_abs] at hz ⊢
    refine ⟨_, r, cr, ?_, Z.below, hz, digs_mul_len g1.dl g2.dl⟩
    rw [show ng (sg false (val ys1) * sg false (val ys2)) = false from by
      rw [sgf, sgf]; unfold ng
      have : (0 : Int) ≤ (val ys1 : Int) * (val ys2 : Int) := Int.mul_nonneg (by omega) (by omega)
      simp; omega]
  have y0 : val ys1 * val ys2 ≠ 0 := Nat.mul_ne_zero y1 y2
  have MK : Hid (∀ W' (b : Bool) (L : Nat) (D : List Nat) (r : Option Addr) (cr L' : Nat) (r' : Option Addr) (cr' : Nat), Sl W' r L cr D → Nm b L D (A1 * (val ys2 : Nat) + A2 * (val ys1 : Nat)) → Sl W' r' L' cr' (digs (val ys1 * val ys2)) → L ≤ 67108864 → L' ≤ 67108864 →
      Calls Tryz.prog 46 #[.agg #[.bool b, .slice r L cr], .agg #[.bool false, .slice r' L' cr']] W' (Rt W' (nR (A1 * (val ys2 : Nat) + A2 * (val ys1 : Nat)) (val ys1 * val ys2)) (dR (A1 * (val ys2 : Nat) + A2 * (val ys1 : Nat)) (val ys1 * val ys2)) 67108864 67108864)) := by
    intro W' b L D r cr L' r' cr' hr hN hr' hl hl'
    have := rmake_c W' b r r' L cr L' cr' D (digs (val ys1 * val ys2)) hr hr' (by rw [val_digs]; exact y0) (by omega) (by omega)
    rw [val_digs, ← nR_sg, ← dR_sg b, hN.sg] at this
    refine this.mono ?_
    rintro e w' ⟨b1, L1, D1, r1, k1, L2, r2, k2, z1, z2, z3, z4, z5, z6, z7, z8, z9⟩
    exact ⟨b1, L1, D1, r1, k1, L2, r2, k2, z1, z2, z3, z4, z5, by omega, by omega, z8, z9⟩
  generalize hX : A1 * (val ys2 : Nat) + A2 * (val ys1 : Nat) = X at *
  have HX := hid hX
  generalize val ys1 * val ys2 = Y at *
  generalize hP1 : A1 * (val ys2 : Nat) = P1 at *
  generalize hP2 : A2 * (val ys1 : Nat) = P2 at *
  clear h1 g1 h2 g2 y1 y2 y0 eA1 eA2 sgf hX
  go_enter Tryz.func31, Tryz.ntmps31
  go_wp2_with fail
  refine M1.out.mono ?_
  rintro e w1 ⟨bx, Lx, Dx, rx, kx, rfl, C1, Sx, Nx, lx⟩
  replace a2 := cell_below a2 C1
  replace a3 := cell_below a3 C1
  replace e0 := cell_below e0 C1
  replace e1 := cell_below e1 C1
  replace e2 := cell_below e2 C1
  replace e3 := cell_below e3 C1
  replace HI := hid (HI.out.call C1)
  have C2 := below_alloc w1 (.cells #[.bool bx, .slice rx Lx kx] 24)
  have Xx := box_alloc w1 bx rx Lx kx
  obtain ⟨W1, hW1⟩ : ∃ W1, w1.alloc (.cells #[.bool bx, .slice rx Lx kx] 24) = W1 := ⟨_, rfl⟩
  rw [hW1] at C2 Xx
  obtain ⟨gx, hgx⟩ : ∃ gx, w1.heap.size = gx := ⟨_, rfl⟩
  rw [hgx] at Xx
  have x0 := Xx.at0
  have x1 := Xx.at1
  have hI1 := HI.out.lt
  replace a2 := cell_below a2 C2
  replace a3 := cell_below a3 C2
  replace e0 := cell_below e0 C2
  replace e1 := cell_below e1 C2
  replace e2 := cell_below e2 C2
  replace e3 := cell_below e3 C2
  replace HI := hid (HI.out.call C2)
  replace Sx := hid (Sx.out.below C2)
  clear C1 C2 Xx hW a0 a1 M1
  go_wp2_with fail
  refine (M2.out W1 HI.out.below).mono ?_
  rintro e w2 ⟨by', Ly, Dy, ry, ky, rfl, C3, Sy, Ny, ly⟩
  replace a2 := cell_below a2 C3
  replace a3 := cell_below a3 C3
  replace e2 := cell_below e2 C3
  replace e3 := cell_below e3 C3
  replace x0 := cell_below x0 C3
  replace x1 := cell_below x1 C3
  replace HI := hid (HI.out.call C3)
  replace Sx := hid (Sx.out.below C3)
  have C4 := below_alloc w2 (.cells #[.bool by', .slice ry Ly ky] 24)
  have Xy := box_alloc w2 by' ry Ly ky
  obtain ⟨W2, hW2⟩ : ∃ W2, w2.alloc (.cells #[.bool by', .slice ry Ly ky] 24) = W2 := ⟨_, rfl⟩
  rw [hW2] at C4 Xy
  obtain ⟨gy, hgy⟩ : ∃ gy, w2.heap.size = gy := ⟨_, rfl⟩
  rw [hgy] at Xy
  have z0 := Xy.at0
  have z1 := Xy.at1
  have hI2' := HI.out.lt
  replace a2 := cell_below a2 C4
  replace a3 := cell_below a3 C4
  replace e2 := cell_below e2 C4
  replace e3 := cell_below e3 C4
  replace x0 := cell_below x0 C4
  replace x1 := cell_below x1 C4
  replace HI := hid (HI.out.call C4)
  replace Sx := hid (Sx.out.below C4)
  replace Sy := hid (Sy.out.below C4)
  clear C3 C4 Xy hW1 e0 e1 M2
  have u0 : g + 1 + 1 ≠ g := by omega
  have u1 : g + 1 + 1 ≠ g + 1 := by omega
  have u2 : g + 1 + 1 ≠ gx := by omega
  have u3 : g + 1 + 1 ≠ gy := by omega
  go_wp2
  go_region_held3 (fun w' => w'.cell? ⟨g, 2, none⟩ = some (.bool false) ∧ w'.cell? ⟨g, 3, none⟩ = some (.slice q1 m1 d1) ∧ w'.cell? ⟨g + 1, 2, none⟩ = some (.bool false) ∧ w'.cell? ⟨g + 1, 3, none⟩ = some (.slice q2 m2 d2) ∧ w'.cell? ⟨gx, 0, none⟩ = some (.bool bx) ∧ w'.cell? ⟨gx, 1, none⟩ = some (.slice rx Lx kx) ∧ w'.cell? ⟨gy, 0, none⟩ = some (.bool by') ∧ w'.cell? ⟨gy, 1, none⟩ = some (.slice ry Ly ky) ∧ Hid (RInv w w' (g + 1 + 1)))
    (first | (with_reducible exact keepR8 (by assumption) hBz) | (with_reducible exact keepR8s (by assumption) u0 u0 u1 u1 u2 u2 u3 u3) | (exact ⟨a2, a3, e2, e3, x0, x1, z0, z1, HI.out.drew⟩) | fail)
    (first | (go_at_call 47; refine (radd_g _ bx by' rx ry Lx kx Ly ky Dx Dy P1 P2 Nx.out.sg Ny.out.sg (Sx.out.below (Below.refl _ _).drew) (Sy.out.below (Below.refl _ _).drew) (by omega) (by omega)).mono ?_; rintro e wa ⟨bs, Ls, Ds, rs, ks, rfl, hBz, Ss, Ns, ls⟩)
           | (go_at_call 45; refine (DM.out _ (invR8 (by assumption)).below).mono ?_; rintro e wb ⟨Ld, rd, kd, rfl, hBz, Sd, ld⟩; have Ss2 := hid (Ss.out.below hBz))
           | (go_at_call 46; refine (MK.out _ bs Ls Ds rs ks Ld rd kd Ss2.out (HX.out ▸ Ns.out) Sd.out (by omega) (by omega)).mono ?_; rintro e w9 ⟨b2, L2, D2, r2, k2, L3, r3, k3, rfl, hBz, S2, S3, N2, l2, l3, f2, f3⟩; have hlt := hid (RInv.lt (invR8 (w := w) (g2 := g + 1 + 1) (by assumption))); have hI2 := hid ((invR8 (w := w) (g2 := g + 1 + 1) (by assumption)).call hBz); obtain ⟨i1, i2, i3, i4, i5, i6, i7, i8, hx3⟩ := hI2.out.box; have k0 := hx3.at0; have k1 := hx3.at1; have k2' := hx3.at2; have k3' := hx3.at3; have k4 := hx3.frozen 0; have k5 := hx3.frozen 1; have k6 := hx3.frozen 2; have k7 := hx3.frozen 3))
  go_wp2
  have hc := hx3.set b2 r2 L2 k2 false r3 L3 k3
  have hc0 := hc.at0
  have hc1 := hc.at1
  have hc2 := hc.at2
  have hc3 := hc.at3
  refine bodyPost_ret (by simp [results, Tryz.results31, go_sem, hc0, hc1, hc2, hc3]; try rfl) rfl ?_
  exact rt_end hI2.out hlt.out S2 S3 N2 l2 l3 f2 f3
end Go.Proofs.YtdeeoimgkcblkaaGreatDoor
