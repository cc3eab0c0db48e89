/-
  The document's difference of two rationals that may be, and their order.
-/
import Derived.Test.YtdeeoimgkcblkaaGreatDoorRAdd
namespace Go.Proofs.YtdeeoimgkcblkaaGreatDoor
open Go.RowKit Nt
set_option linter.unusedSimpArgs false
set_option linter.unusedVariables false
set_option maxRecDepth 20000

set_option maxHeartbeats 4000000 in
theorem rrsub_c (w : World) (s1 : Bool) (p1 : Option Addr) (n1 c1 : Nat) (xs1 : List Nat) (q1 : Option Addr) (m1 d1 : Nat) (ys1 : List Nat) (s2 : Bool) (p2 : Option Addr) (n2 c2 : Nat) (xs2 : List Nat) (q2 : Option Addr) (m2 d2 : Nat) (ys2 : List Nat)
    (h1 : Sl w p1 n1 c1 xs1) (g1 : Sl w q1 m1 d1 ys1) (h2 : Sl w p2 n2 c2 xs2) (g2 : Sl w q2 m2 d2 ys2) (y1 : val ys1 ≠ 0) (y2 : val ys2 ≠ 0) (A1 A2 : Int) (eA1 : sg s1 (val xs1) = A1) (eA2 : sg s2 (val xs2) = A2)
    (b1 : n1 ≤ 8388608) (b2 : m1 ≤ 8388608) (b3 : n2 ≤ 8388608) (b4 : m2 ≤ 8388608) :
    Calls Tryz.prog 18 #[.agg #[.bool s1, .slice p1 n1 c1, .bool false, .slice q1 m1 d1], .agg #[.bool s2, .slice p2 n2 c2, .bool false, .slice q2 m2 d2]] w (Rt w (nR (A1 * (dR (-A2) (val ys2) : Nat) + nR (-A2) (val ys2) * (val ys1 : Nat)) (val ys1 * dR (-A2) (val ys2))) (dR (A1 * (dR (-A2) (val ys2) : Nat) + nR (-A2) (val ys2) * (val ys1 : Nat)) (val ys1 * dR (-A2) (val ys2))) 67108864 67108864) := by
  obtain ⟨W, g, hg, hW, a0, a1, a2, a3, e0, e1, e2, e3, HI⟩ := renter2 w s1 p1 n1 c1 false q1 m1 d1 s2 p2 n2 c2 false q2 m2 d2
  have NG : Hid (∀ W', Below w.heap.size w W' → Calls Tryz.prog 32 #[.agg #[.bool s2, .slice p2 n2 c2, .bool false, .slice q2 m2 d2]] W' (Rt W' (nR (-A2) (val ys2)) (dR (-A2) (val ys2)) n2 m2)) := by
    intro W' hb
    have := rneg_c W' s2 p2 q2 n2 c2 m2 d2 xs2 ys2 (h2.below hb) (g2.below hb) y2 (by omega) (by omega)
    rwa [eA2] at this
  have y3 : dR (-A2) (val ys2) ≠ 0 := dR_ne y2
  have AD : Hid (∀ W' (b : Bool) (L : Nat) (D : List Nat) (r : Option Addr) (cr L' : Nat) (r' : Option Addr) (cr' : Nat), Below w.heap.size w W' → Sl W' r L cr D → Nm b L D (nR (-A2) (val ys2)) → Sl W' r' L' cr' (digs (dR (-A2) (val ys2))) → L ≤ n2 → L' ≤ m2 →
      Calls Tryz.prog 31 #[.agg #[.bool s1, .slice p1 n1 c1, .bool false, .slice q1 m1 d1], .agg #[.bool b, .slice r L cr, .bool false, .slice r' L' cr']] W' (Rt W' (nR (A1 * (dR (-A2) (val ys2) : Nat) + nR (-A2) (val ys2) * (val ys1 : Nat)) (val ys1 * dR (-A2) (val ys2))) (dR (A1 * (dR (-A2) (val ys2) : Nat) + nR (-A2) (val ys2) * (val ys1 : Nat)) (val ys1 * dR (-A2) (val ys2))) 67108864 67108864)) := by
    intro W' b L D r cr L' r' cr' hb hr hN hr' hl hl'
    have := rradd_c W' s1 p1 n1 c1 xs1 q1 m1 d1 ys1 b r L cr D r' L' cr' (digs (dR (-A2) (val ys2))) (h1.below hb) (g1.below hb) hr hr' y1 (by rw [val_digs]; exact y3) A1 _ eA1 hN.sg b1 b2 (by omega) (by omega)
    rwa [val_digs] at this
  generalize nR (A1 * (dR (-A2) (val ys2) : Nat) + nR (-A2) (val ys2) * (val ys1 : Nat)) (val ys1 * dR (-A2) (val ys2)) = NN at *
  generalize dR (A1 * (dR (-A2) (val ys2) : Nat) + nR (-A2) (val ys2) * (val ys1 : Nat)) (val ys1 * dR (-A2) (val ys2)) = DD at *
  generalize nR (-A2) (val ys2) = N1 at *
  generalize dR (-A2) (val ys2) = D1 at *
  clear h1 g1 h2 g2 y1 y2 y3 eA1 eA2
  have u0 : g + 1 + 1 ≠ g := by omega
  have u1 : g + 1 + 1 ≠ g + 1 := by omega
  go_enter Tryz.func18, Tryz.ntmps18
  go_wp2
  go_region_held3 (fun w' => w'.cell? ⟨g, 0, none⟩ = some (.bool s1) ∧ w'.cell? ⟨g, 1, none⟩ = some (.slice p1 n1 c1) ∧ w'.cell? ⟨g, 2, none⟩ = some (.bool false) ∧ w'.cell? ⟨g, 3, none⟩ = some (.slice q1 m1 d1) ∧ w'.cell? ⟨g + 1, 0, none⟩ = some (.bool s2) ∧ w'.cell? ⟨g + 1, 1, none⟩ = some (.slice p2 n2 c2) ∧ w'.cell? ⟨g + 1, 2, none⟩ = some (.bool false) ∧ w'.cell? ⟨g + 1, 3, none⟩ = some (.slice q2 m2 d2) ∧ Hid (RInv w w' (g + 1 + 1)))
    (first | (with_reducible exact keepR8 (by assumption) hBz) | (with_reducible exact keepR8s (by assumption) u0 u0 u0 u0 u1 u1 u1 u1) | (exact ⟨a0, a1, a2, a3, e0, e1, e2, e3, HI.out.drew⟩) | fail)
    (first | (go_at_call 32; refine (NG.out _ (invR8 (by assumption)).below).mono ?_; rintro e wa ⟨b4', L4, D4, r4, k4', L5, r5, k5', rfl, hBz, S4, S5, N4, l4, l5, f4, f5⟩)
           | (go_at_call 31; refine (AD.out _ b4' L4 D4 r4 k4' L5 r5 k5' (invR8 (by assumption)).below S4.out N4.out S5.out l4 l5).mono ?_; rintro e w9 ⟨b2', L2, D2, r2, k2, L3, r3, k3, rfl, hBz, S2, S3, N2, l2, l3, f2, f3⟩; have hlt := hid (RInv.lt (invR8 (w := w) (g2 := g + 1 + 1) (by assumption))); have hI2 := hid ((invR8 (w := w) (g2 := g + 1 + 1) (by assumption)).call hBz); obtain ⟨i1, i2, i3, i4, i5, i6, i7, i8, hx3⟩ := hI2.out.box; have k0 := hx3.at0; have k1 := hx3.at1; have k2' := hx3.at2; have k3' := hx3.at3; have k4 := hx3.frozen 0; have k5 := hx3.frozen 1; have k6 := hx3.frozen 2; have k7 := hx3.frozen 3))
  go_wp2
  have hc := hx3.set b2' r2 L2 k2 false r3 L3 k3
  have hc0 := hc.at0
  have hc1 := hc.at1
  have hc2 := hc.at2
  have hc3 := hc.at3
  refine bodyPost_ret (by simp [results, Tryz.results18, go_sem, hc0, hc1, hc2, hc3]; try rfl) rfl ?_
  exact rt_end hI2.out hlt.out S2 S3 N2 l2 l3 f2 f3

/-- Into a call of two rationals that hands none back. -/
theorem renter2b (w : World) (s1 : Bool) (p1 : Option Addr) (n1 c1 : Nat) (t1 : Bool) (q1 : Option Addr) (m1 d1 : Nat) (s2 : Bool) (p2 : Option Addr) (n2 c2 : Nat) (t2 : Bool) (q2 : Option Addr) (m2 d2 : Nat) :
    ∃ W g, w.heap.size = g ∧ (w.alloc (.cells #[.bool s1, .slice p1 n1 c1, .bool t1, .slice q1 m1 d1] 26)).alloc (.cells #[.bool s2, .slice p2 n2 c2, .bool t2, .slice q2 m2 d2] 26) = W ∧
      W.cell? ⟨g, 0, none⟩ = some (.bool s1) ∧ W.cell? ⟨g, 1, none⟩ = some (.slice p1 n1 c1) ∧ W.cell? ⟨g, 2, none⟩ = some (.bool t1) ∧ W.cell? ⟨g, 3, none⟩ = some (.slice q1 m1 d1) ∧
      W.cell? ⟨g + 1, 0, none⟩ = some (.bool s2) ∧ W.cell? ⟨g + 1, 1, none⟩ = some (.slice p2 n2 c2) ∧ W.cell? ⟨g + 1, 2, none⟩ = some (.bool t2) ∧ W.cell? ⟨g + 1, 3, none⟩ = some (.slice q2 m2 d2) ∧ Hid (Below w.heap.size w W) := by
  have B1 := below_alloc w (.cells #[.bool s1, .slice p1 n1 c1, .bool t1, .slice q1 m1 d1] 26)
  have B2 := below_alloc (w.alloc (.cells #[.bool s1, .slice p1 n1 c1, .bool t1, .slice q1 m1 d1] 26)) (.cells #[.bool s2, .slice p2 n2 c2, .bool t2, .slice q2 m2 d2] 26)
  have X1 := (rbox_alloc w s1 p1 n1 c1 t1 q1 m1 d1).below B2
  have X2 := rbox_alloc (w.alloc (.cells #[.bool s1, .slice p1 n1 c1, .bool t1, .slice q1 m1 d1] 26)) s2 p2 n2 c2 t2 q2 m2 d2
  rw [show (w.alloc (.cells #[.bool s1, .slice p1 n1 c1, .bool t1, .slice q1 m1 d1] 26)).heap.size = w.heap.size + 1 from by simp] at X2
  exact ⟨_, _, rfl, rfl, X1.at0, X1.at1, X1.at2, X1.at3, X2.at0, X2.at1, X2.at2, X2.at3, B1.trans (B2.mono B1.size)⟩

set_option maxHeartbeats 4000000 in
theorem rrcmp_c (w : World) (s1 : Bool) (p1 : Option Addr) (n1 c1 : Nat) (xs1 : List Nat) (q1 : Option Addr) (m1 d1 : Nat) (ys1 : List Nat) (s2 : Bool) (p2 : Option Addr) (n2 c2 : Nat) (xs2 : List Nat) (q2 : Option Addr) (m2 d2 : Nat) (ys2 : List Nat)
    (h1 : Sl w p1 n1 c1 xs1) (g1 : Sl w q1 m1 d1 ys1) (h2 : Sl w p2 n2 c2 xs2) (g2 : Sl w q2 m2 d2 ys2) (y1 : val ys1 ≠ 0) (y2 : val ys2 ≠ 0)
    (b1 : n1 ≤ 8388608) (b2 : m1 ≤ 8388608) (b3 : n2 ≤ 8388608) (b4 : m2 ≤ 8388608) :
    Calls Tryz.prog 7 #[.agg #[.bool s1, .slice p1 n1 c1, .bool false, .slice q1 m1 d1], .agg #[.bool s2, .slice p2 n2 c2, .bool false, .slice q2 m2 d2]] w fun e w' => e = .returned (.int .i64 (sg s1 (val xs1) * (val ys2 : Nat) - sg s2 (val xs2) * (val ys1 : Nat)).sign) ∧ Below w.heap.size w w' := by
  obtain ⟨W, g, hg, hW, a0, a1, a2, a3, e0, e1, e2, e3, HB⟩ := renter2b w s1 p1 n1 c1 false q1 m1 d1 s2 p2 n2 c2 false q2 m2 d2
  have SU := hid (rrsub_c W s1 p1 n1 c1 xs1 q1 m1 d1 ys1 s2 p2 n2 c2 xs2 q2 m2 d2 ys2 (h1.below HB.out) (g1.below HB.out) (h2.below HB.out) (g2.below HB.out) y1 y2 _ _ rfl rfl b1 b2 b3 b4)
  rw [← sign_sub _ _ _ _ y1 y2]
  generalize nR (sg s1 (val xs1) * (dR (-sg s2 (val xs2)) (val ys2) : Nat) + nR (-sg s2 (val xs2)) (val ys2) * (val ys1 : Nat)) (val ys1 * dR (-sg s2 (val xs2)) (val ys2)) = NN at *
  generalize dR (sg s1 (val xs1) * (dR (-sg s2 (val xs2)) (val ys2) : Nat) + nR (-sg s2 (val xs2)) (val ys2) * (val ys1 : Nat)) (val ys1 * dR (-sg s2 (val xs2)) (val ys2)) = DD at *
  clear h1 g1 h2 g2 y1 y2
  go_enter Tryz.func7, Tryz.ntmps7
  go_wp2_with fail
  refine SU.out.mono ?_
  rintro e w1 ⟨b2', L2, D2, r2, k2, L3, r3, k3, rfl, hBz, S2, S3, N2, l2, l3, f2, f3⟩
  have SG := zrsign_c w1 b2' r2 L2 k2 D2 S2.out (by omega)
  rw [N2.out.sg] at SG
  have HSG := hid SG
  have HF := hid (HB.out.trans (hBz.mono HB.out.size))
  have FD : (Instr.field 26 (.agg #[.bool b2', .slice r2 L2 k2, .bool false, .slice r3 L3 k3]) 0).run Tryz.prog w1 = .ok (.agg #[.bool b2', .slice r2 L2 k2]) w1 := by
    rfl
  clear SG hBz S2 S3 N2 SU
  go_wp2_with fail
  refine HSG.out.mono ?_
  rintro e w2 ⟨rfl, hB2⟩
  have HG := hid (HF.out.trans (hB2.mono HF.out.size))
  clear hB2
  go_wp2
  go_ret
  exact ⟨rfl, HG.out⟩
end Go.Proofs.YtdeeoimgkcblkaaGreatDoor
