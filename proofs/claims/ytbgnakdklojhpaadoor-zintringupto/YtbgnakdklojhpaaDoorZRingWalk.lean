/-
  ZintRing's walk: it returns true and writes nothing that was there.
-/
import Derived.Test.YtbgnakdklojhpaaDoorZAlive
import Derived.Test.YtbgnakdklojhpaaDoorZNum
namespace Go.Proofs.YtbgnakdklojhpaaDoor
open Go.RowKit Nt
set_option linter.unusedSimpArgs false
set_option linter.unusedVariables false

theorem keep6 {w w1 w2 : World} {a1 a2 a3 a4 a5 a6 : Addr} {v1 v2 v3 v4 v5 v6 : Value} (h : w1.cell? a1 = some v1 ∧ w1.cell? a2 = some v2 ∧ w1.cell? a3 = some v3 ∧ w1.cell? a4 = some v4 ∧ w1.cell? a5 = some v5 ∧ w1.cell? a6 = some v6 ∧ Hid (Below w.heap.size w w1)) (hb : Below w1.heap.size w1 w2) : w2.cell? a1 = some v1 ∧ w2.cell? a2 = some v2 ∧ w2.cell? a3 = some v3 ∧ w2.cell? a4 = some v4 ∧ w2.cell? a5 = some v5 ∧ w2.cell? a6 = some v6 ∧ Hid (Below w.heap.size w w2) :=
  ⟨cell_below h.1 hb, cell_below h.2.1 hb, cell_below h.2.2.1 hb, cell_below h.2.2.2.1 hb, cell_below h.2.2.2.2.1 hb, cell_below h.2.2.2.2.2.1 hb, Below.trans h.2.2.2.2.2.2 (hb.mono (Below.size h.2.2.2.2.2.2))⟩
theorem bel6 {A1 A2 A3 A4 A5 A6 : Prop} {w w' : World} (h : A1 ∧ A2 ∧ A3 ∧ A4 ∧ A5 ∧ A6 ∧ Hid (Below w.heap.size w w')) : Below w.heap.size w w' := h.2.2.2.2.2.2

/-- Into a law of three numbers. -/
theorem enter3c (w : World) (s0 : Bool) (p0 : Option Addr) (n0 c0 : Nat) (s1 : Bool) (p1 : Option Addr) (n1 c1 : Nat) (s2 : Bool) (p2 : Option Addr) (n2 c2 : Nat) :
    ∃ W g, w.heap.size = g ∧ ((w.alloc (.cells #[.bool s0, .slice p0 n0 c0] 24)).alloc (.cells #[.bool s1, .slice p1 n1 c1] 24)).alloc (.cells #[.bool s2, .slice p2 n2 c2] 24) = W ∧
      W.cell? ⟨g, 0, none⟩ = some (.bool s0) ∧ W.cell? ⟨g, 1, none⟩ = some (.slice p0 n0 c0) ∧ W.cell? ⟨g + 1, 0, none⟩ = some (.bool s1) ∧ W.cell? ⟨g + 1, 1, none⟩ = some (.slice p1 n1 c1) ∧ W.cell? ⟨g + 1 + 1, 0, none⟩ = some (.bool s2) ∧ W.cell? ⟨g + 1 + 1, 1, none⟩ = some (.slice p2 n2 c2) ∧ Hid (Below w.heap.size w W) := by
  have B1 := below_alloc w (.cells #[.bool s0, .slice p0 n0 c0] 24)
  have B2 := below_alloc (w.alloc (.cells #[.bool s0, .slice p0 n0 c0] 24)) (.cells #[.bool s1, .slice p1 n1 c1] 24)
  have B3 := below_alloc ((w.alloc (.cells #[.bool s0, .slice p0 n0 c0] 24)).alloc (.cells #[.bool s1, .slice p1 n1 c1] 24)) (.cells #[.bool s2, .slice p2 n2 c2] 24)
  have X1 := ((box_alloc w s0 p0 n0 c0).below B2).below B3
  have X2 := (box_alloc (w.alloc (.cells #[.bool s0, .slice p0 n0 c0] 24)) s1 p1 n1 c1).below B3
  have X3 := box_alloc ((w.alloc (.cells #[.bool s0, .slice p0 n0 c0] 24)).alloc (.cells #[.bool s1, .slice p1 n1 c1] 24)) s2 p2 n2 c2
  rw [show (w.alloc (.cells #[.bool s0, .slice p0 n0 c0] 24)).heap.size = w.heap.size + 1 from by simp] at X2
  rw [show ((w.alloc (.cells #[.bool s0, .slice p0 n0 c0] 24)).alloc (.cells #[.bool s1, .slice p1 n1 c1] 24)).heap.size = w.heap.size + 1 + 1 from by simp] at X3
  exact ⟨_, _, rfl, rfl, X1.at0, X1.at1, X2.at0, X2.at1, X3.at0, X3.at1, B1.trans ((B2.trans (B3.mono B2.size)).mono B1.size)⟩

set_option maxHeartbeats 16000000 in
theorem zring_walk (w : World) (s0 : Bool) (p0 : Option Addr) (n0 c0 : Nat) (xs0 : List Nat) (s1 : Bool) (p1 : Option Addr) (n1 c1 : Nat) (xs1 : List Nat) (s2 : Bool) (p2 : Option Addr) (n2 c2 : Nat) (xs2 : List Nat)
    (h0 : Sl w p0 n0 c0 xs0) (h1 : Sl w p1 n1 c1 xs1) (h2 : Sl w p2 n2 c2 xs2) (u0 : c0 ≤ 1048576) (u1 : c1 ≤ 1048576) (u2 : c2 ≤ 1048576) :
    Calls Tryd.prog 3 #[.agg #[.bool s0, .slice p0 n0 c0], .agg #[.bool s1, .slice p1 n1 c1], .agg #[.bool s2, .slice p2 n2 c2]] w fun e w' => e = .returned (.bool true) ∧ Below w.heap.size w w' := by
  obtain ⟨W, g, hg, hW, d1, d2, d3, d4, d5, d6, HD⟩ := enter3c w s0 p0 n0 c0 s1 p1 n1 c1 s2 p2 n2 c2
  have hn0 : n0 ≤ 1048576 := Nat.le_trans h0.cap u0
  have hn1 : n1 ≤ 1048576 := Nat.le_trans h1.cap u1
  have hn2 : n2 ≤ 1048576 := Nat.le_trans h2.cap u2
  have HA := hid h0
  have HB := hid h1
  have HC := hid h2
  obtain ⟨A, eA⟩ : ∃ A, sg s0 (val xs0) = A := ⟨_, rfl⟩
  obtain ⟨B, eB⟩ : ∃ B, sg s1 (val xs1) = B := ⟨_, rfl⟩
  obtain ⟨C, eC⟩ : ∃ C, sg s2 (val xs2) = C := ⟨_, rfl⟩
  have EA := hid eA
  have EB := hid eB
  have EC := hid eC
  have AL := hid (alive_c W)
  clear h0 h1 h2 eA eB eC
  go_enter Tryd.func3, Tryd.ntmps3
  go_wp2_with fail
  refine AL.out.mono ?_
  rintro e wq ⟨rfl, hBz⟩
  have HQ := hid (keep6 (w := w) ⟨d1, d2, d3, d4, d5, d6, HD⟩ hBz)
  clear AL hBz
  obtain ⟨e1, e2, e3, e4, e5, e6, HE⟩ := HQ.out
  replace d1 := e1
  replace d2 := e2
  replace d3 := e3
  replace d4 := e4
  replace d5 := e5
  replace d6 := e6
  replace HD := HE
  clear e1 e2 e3 e4 e5 e6 HE
  go_wp2
  go_region_held3 (fun w' => w'.cell? ⟨g, 0, none⟩ = some (.bool s0) ∧ w'.cell? ⟨g, 1, none⟩ = some (.slice p0 n0 c0) ∧ w'.cell? ⟨g + 1, 0, none⟩ = some (.bool s1) ∧ w'.cell? ⟨g + 1, 1, none⟩ = some (.slice p1 n1 c1) ∧ w'.cell? ⟨g + 1 + 1, 0, none⟩ = some (.bool s2) ∧ w'.cell? ⟨g + 1 + 1, 1, none⟩ = some (.slice p2 n2 c2) ∧ Hid (Below w.heap.size w w'))
    (first | (with_reducible exact keep6 (by assumption) hBz) | (exact ⟨d1, d2, d3, d4, d5, d6, HD.out.drew⟩) | fail)
    (first | (go_at_call 8; with_reducible refine (zadd_g _ s0 s1 p0 p1 n0 c0 n1 c1 xs0 xs1 _ _ EA.out EB.out (HA.out.below (bel6 (by assumption))) (HB.out.below (bel6 (by assumption))) (by omega) (by omega)).mono ?_; rintro e w1 ⟨b1, L1, D1, r1, k1, rfl, hBz, X1, N1, l1⟩)
           | (go_at_call 7; with_reducible refine (zsub_g _ b1 s1 r1 p1 L1 k1 n1 c1 D1 xs1 _ _ N1.out.sg EB.out X1.out (HB.out.below (bel6 (by assumption))) (by omega) (by omega)).mono ?_; rintro e w2 ⟨b2, L2, D2, r2, k2, rfl, hBz, X2, N2, l2⟩)
           | (go_at_call 9; with_reducible refine (zform_g _ s0 p0 n0 c0 xs0 _ EA.out (HA.out.below (bel6 (by assumption))) (by omega)).mono ?_; rintro e w3 ⟨b3, L3, D3, r3, k3, rfl, hBz, X3, N3, l3⟩; (try (replace X2 := hid (X2.out.below hBz))))
           | (go_at_call_of 6 (Value.slice r2 L2 k2); with_reducible refine (eq_g _ b2 b3 r2 r3 L2 k2 L3 k3 D2 D3 X2.out X3.out (Nm.same N2.out N3.out (Int.add_sub_cancel A B))).mono ?_; rintro e we1 ⟨rfl, hBz⟩)
           | (go_at_call 8; with_reducible refine (zadd_g _ s1 s0 p1 p0 n1 c1 n0 c0 xs1 xs0 _ _ EB.out EA.out (HB.out.below (bel6 (by assumption))) (HA.out.below (bel6 (by assumption))) (by omega) (by omega)).mono ?_; rintro e w4 ⟨b4, L4, D4, r4, k4, rfl, hBz, X4, N4, l4⟩; (try (replace X1 := hid (X1.out.below hBz))))
           | (go_at_call_of 6 (Value.slice r1 L1 k1); with_reducible refine (eq_g _ b1 b4 r1 r4 L1 k1 L4 k4 D1 D4 X1.out X4.out (Nm.same N1.out N4.out (Int.add_comm A B))).mono ?_; rintro e we2 ⟨rfl, hBz⟩)
           | (go_at_call 10; with_reducible refine (zmul_g _ s0 s1 p0 p1 n0 c0 n1 c1 xs0 xs1 _ _ EA.out EB.out (HA.out.below (bel6 (by assumption))) (HB.out.below (bel6 (by assumption))) (by omega)).mono ?_; rintro e w5 ⟨b5, L5, D5, r5, k5, rfl, hBz, X5, N5, l5⟩)
           | (go_at_call 10; with_reducible refine (zmul_g _ s1 s0 p1 p0 n1 c1 n0 c0 xs1 xs0 _ _ EB.out EA.out (HB.out.below (bel6 (by assumption))) (HA.out.below (bel6 (by assumption))) (by omega)).mono ?_; rintro e w6 ⟨b6, L6, D6, r6, k6, rfl, hBz, X6, N6, l6⟩; (try (replace X5 := hid (X5.out.below hBz))))
           | (go_at_call_of 6 (Value.slice r5 L5 k5); with_reducible refine (eq_g _ b5 b6 r5 r6 L5 k5 L6 k6 D5 D6 X5.out X6.out (Nm.same N5.out N6.out (Int.mul_comm A B))).mono ?_; rintro e we3 ⟨rfl, hBz⟩; have HS := hid (keep6 (w := w) (by assumption) hBz)))
  obtain ⟨e1, e2, e3, e4, e5, e6, HE⟩ := HS.out
  replace d1 := e1
  replace d2 := e2
  replace d3 := e3
  replace d4 := e4
  replace d5 := e5
  replace d6 := e6
  replace HD := HE
  clear e1 e2 e3 e4 e5 e6 HE
  go_wp2
  clear HS
  go_region_held3 (fun w' => w'.cell? ⟨g, 0, none⟩ = some (.bool s0) ∧ w'.cell? ⟨g, 1, none⟩ = some (.slice p0 n0 c0) ∧ w'.cell? ⟨g + 1, 0, none⟩ = some (.bool s1) ∧ w'.cell? ⟨g + 1, 1, none⟩ = some (.slice p1 n1 c1) ∧ w'.cell? ⟨g + 1 + 1, 0, none⟩ = some (.bool s2) ∧ w'.cell? ⟨g + 1 + 1, 1, none⟩ = some (.slice p2 n2 c2) ∧ Hid (Below w.heap.size w w'))
    (first | (with_reducible exact keep6 (by assumption) hBz) | (exact ⟨d1, d2, d3, d4, d5, d6, HD.out.drew⟩) | fail)
    (first | (go_at_call 8; with_reducible refine (zadd_g _ s1 s2 p1 p2 n1 c1 n2 c2 xs1 xs2 _ _ EB.out EC.out (HB.out.below (bel6 (by assumption))) (HC.out.below (bel6 (by assumption))) (by omega) (by omega)).mono ?_; rintro e w1 ⟨b1, L1, D1, r1, k1, rfl, hBz, X1, N1, l1⟩)
           | (go_at_call 10; with_reducible refine (zmul_g _ s0 b1 p0 r1 n0 c0 L1 k1 xs0 D1 _ _ EA.out N1.out.sg (HA.out.below (bel6 (by assumption))) X1.out (by omega)).mono ?_; rintro e w2 ⟨b2, L2, D2, r2, k2, rfl, hBz, X2, N2, l2⟩)
           | (go_at_call 10; with_reducible refine (zmul_g _ s0 s1 p0 p1 n0 c0 n1 c1 xs0 xs1 _ _ EA.out EB.out (HA.out.below (bel6 (by assumption))) (HB.out.below (bel6 (by assumption))) (by omega)).mono ?_; rintro e w3 ⟨b3, L3, D3, r3, k3, rfl, hBz, X3, N3, l3⟩; (try (replace X2 := hid (X2.out.below hBz))))
           | (go_at_call 10; with_reducible refine (zmul_g _ s0 s2 p0 p2 n0 c0 n2 c2 xs0 xs2 _ _ EA.out EC.out (HA.out.below (bel6 (by assumption))) (HC.out.below (bel6 (by assumption))) (by omega)).mono ?_; rintro e w4 ⟨b4, L4, D4, r4, k4, rfl, hBz, X4, N4, l4⟩; (try (replace X2 := hid (X2.out.below hBz))); (try (replace X3 := hid (X3.out.below hBz))))
           | (go_at_call 8; with_reducible refine (zadd_g _ b3 b4 r3 r4 L3 k3 L4 k4 D3 D4 _ _ N3.out.sg N4.out.sg X3.out X4.out (by omega) (by omega)).mono ?_; rintro e w5 ⟨b5, L5, D5, r5, k5, rfl, hBz, X5, N5, l5⟩; (try (replace X2 := hid (X2.out.below hBz))))
           | (go_at_call_of 6 (Value.slice r2 L2 k2); with_reducible refine (eq_g _ b2 b5 r2 r5 L2 k2 L5 k5 D2 D5 X2.out X5.out (Nm.same N2.out N5.out (Int.mul_add A B C))).mono ?_; rintro e we4 ⟨rfl, hBz⟩)
           | (go_at_call 10; with_reducible refine (zmul_g _ b3 s2 r3 p2 L3 k3 n2 c2 D3 xs2 _ _ N3.out.sg EC.out X3.out (HC.out.below (bel6 (by assumption))) (by omega)).mono ?_; rintro e w6 ⟨b6, L6, D6, r6, k6, rfl, hBz, X6, N6, l6⟩)
           | (go_at_call 10; with_reducible refine (zmul_g _ s1 s2 p1 p2 n1 c1 n2 c2 xs1 xs2 _ _ EB.out EC.out (HB.out.below (bel6 (by assumption))) (HC.out.below (bel6 (by assumption))) (by omega)).mono ?_; rintro e w7 ⟨b7, L7, D7, r7, k7, rfl, hBz, X7, N7, l7⟩; (try (replace X6 := hid (X6.out.below hBz))))
           | (go_at_call 10; with_reducible refine (zmul_g _ s0 b7 p0 r7 n0 c0 L7 k7 xs0 D7 _ _ EA.out N7.out.sg (HA.out.below (bel6 (by assumption))) X7.out (by omega)).mono ?_; rintro e w8 ⟨b8, L8, D8, r8, k8, rfl, hBz, X8, N8, l8⟩; (try (replace X6 := hid (X6.out.below hBz))))
           | (go_at_call_of 6 (Value.slice r6 L6 k6); with_reducible refine (eq_g _ b6 b8 r6 r8 L6 k6 L8 k8 D6 D8 X6.out X8.out (Nm.same N6.out N8.out (Int.mul_assoc A B C))).mono ?_; rintro e we5 ⟨rfl, hBz⟩; have HS := hid (keep6 (w := w) (by assumption) hBz)))
  go_wp2
  go_ret
  first | exact ⟨rfl, bel6 HS.out⟩ | exact ⟨rfl, by rw [← hg]; exact bel6 HS.out⟩
end Go.Proofs.YtbgnakdklojhpaaDoor
