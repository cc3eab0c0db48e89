import Derived.Test.YteamecapeghnoaaDoorRProd0
import Derived.Test.YteamecapeghnoaaDoorSetW
/-
  rat.Make and rat.lowest of a numerator and a denominator by their names.
-/
namespace Go.Proofs.YteamecapeghnoaaDoor
open Go.RowKit Nt
set_option linter.unusedSimpArgs false
set_option linter.unusedVariables false
set_option maxRecDepth 20000

theorem ratmake_any (W : World) (t b : Bool) (L : Nat) (D : List Nat) (r : Option Addr) (cr L' : Nat) (r' : Option Addr) (cr' : Nat) (P : Int) (Y : Nat) (hr : Sl W r L cr D) (hN : Nm b L D P) (hr' : Sl W r' L' cr' (digs Y)) (hY : Y ≠ 0) (hl : L ≤ 67108864) (hl' : L' ≤ 67108864) :
    Calls Tryd.prog 12 #[.agg #[.bool b, .slice r L cr], .agg #[.bool t, .slice r' L' cr']] W (RtE W (nR (sw t P) Y) (dR (sw t P) Y) L L') := by
  cases t with
  | false =>
    have := ratmake_pos W b r r' L cr L' cr' D (digs Y) hr hr' (by rw [val_digs]; exact hY) (by omega) (by omega)
    rw [val_digs, ← nR_sg, ← dR_sg b, hN.sg] at this
    exact this
  | true =>
    have := ratmake_neg W b r r' L cr L' cr' D (digs Y) hr hr' (by rw [val_digs]; exact hY) (by omega) (by omega)
    rw [val_digs, ← nR_sg, ← dR_sg (!b), sg_not, hN.sg] at this
    exact this

theorem lowest_any (W : World) (b : Bool) (L : Nat) (D : List Nat) (r : Option Addr) (cr L' : Nat) (r' : Option Addr) (cr' : Nat) (P : Int) (Y : Nat) (hr : Sl W r L cr D) (hN : Nm b L D P) (hr' : Sl W r' L' cr' (digs Y)) (hY : Y ≠ 0) (hl : L ≤ 67108864) (hl' : L' ≤ 67108864) :
    Calls Tryd.prog 26 #[.agg #[.bool b, .slice r L cr], .agg #[.bool false, .slice r' L' cr']] W (Rt W (nR (sw false P) Y) (dR (sw false P) Y) L L') := by
  have := lowest_c W b r r' L cr L' cr' D (digs Y) hr hr' (by rw [val_digs]; exact hY) (by omega) (by omega)
  rw [val_digs, ← nR_sg, ← dR_sg b, hN.sg] at this
  exact this
end Go.Proofs.YteamecapeghnoaaDoor

/-
  rat.Mul and rat.Div.
-/
namespace Go.Proofs.YteamecapeghnoaaDoor
open Go.RowKit Nt
set_option linter.unusedSimpArgs false
set_option linter.unusedVariables false
set_option maxRecDepth 20000

set_option maxHeartbeats 2000000 in
theorem ratmul_bad (w : World) (s1 : Bool) (p1 : Option Addr) (n1 c1 : Nat) (t1 : Bool) (q1 : Option Addr) (m1 d1 : Nat) (s2 : Bool) (p2 : Option Addr) (n2 c2 : Nat) (t2 : Bool) (q2 : Option Addr) (m2 d2 : Nat) (ys1 ys2 : List Nat)
    (h1 : Sl w q1 m1 d1 ys1) (h2 : Sl w q2 m2 d2 ys2) (hs : m1 ≤ 70368744177664) (hs' : m2 ≤ 70368744177664) (hk : false = (decide (0 < (sg t1 (val ys1)).sign) && decide (0 < (sg t2 (val ys2)).sign))) :
    Calls Tryd.prog 9 #[.agg #[.bool s1, .slice p1 n1 c1, .bool t1, .slice q1 m1 d1], .agg #[.bool s2, .slice p2 n2 c2, .bool t2, .slice q2 m2 d2]] w fun e w' => e = .returned (.tuple #[.agg #[.bool false, .slice none 0 0, .bool false, .slice none 0 0], .int .i64 30]) ∧ Below w.heap.size w w' := by
  obtain ⟨W, g, hg, hW, a0, a1, a2, a3, e0, e1, e2, e3, HI⟩ := renter2 w s1 p1 n1 c1 t1 q1 m1 d1 s2 p2 n2 c2 t2 q2 m2 d2
  have B3 := below_alloc W (.cells #[.bool s1, .slice p1 n1 c1, .bool t1, .slice q1 m1 d1, .bool s2, .slice p2 n2 c2, .bool t2, .slice q2 m2 d2] 26)
  have HI3 := hid (HI.out.call B3)
  have MB := hid (mayBe2 _ _ s1 p1 n1 c1 t1 q1 m1 d1 s2 p2 n2 c2 t2 q2 m2 d2 ys1 ys2 (heap_alloc_last W _) (h1.below HI3.out.below) (h2.below HI3.out.below) hs hs' false hk)
  clear h1 h2 hk B3
  go_enter Tryd.func9, Tryd.ntmps9
  go_wp2_with fail
  refine MB.out.mono ?_
  rintro e w1 ⟨rfl, hB⟩
  have HF := hid (HI3.out.call hB)
  obtain ⟨i1, i2, i3, i4, i5, i6, i7, i8, x3⟩ := HF.out.box
  have k0 := x3.at0
  have k1 := x3.at1
  have k2 := x3.at2
  have k3 := x3.at3
  have k4 := x3.frozen 0
  have k5 := x3.frozen 1
  have k6 := x3.frozen 2
  have k7 := x3.frozen 3
  clear hB MB
  go_wp2
  have hc := x3.set false none 0 0 false none 0 0
  have hc0 := hc.at0
  have hc1 := hc.at1
  have hc2 := hc.at2
  have hc3 := hc.at3
  refine bodyPost_ret (by simp [results, Tryd.results9, go_sem, hc0, hc1, hc2, hc3]; try rfl) rfl ?_
  exact ⟨rfl, below_set4 HF.out.below HF.out.fresh⟩

set_option maxHeartbeats 2000000 in
theorem ratdiv_bad (w : World) (s1 : Bool) (p1 : Option Addr) (n1 c1 : Nat) (t1 : Bool) (q1 : Option Addr) (m1 d1 : Nat) (s2 : Bool) (p2 : Option Addr) (n2 c2 : Nat) (t2 : Bool) (q2 : Option Addr) (m2 d2 : Nat) (ys1 ys2 : List Nat)
    (h1 : Sl w q1 m1 d1 ys1) (h2 : Sl w q2 m2 d2 ys2) (hs : m1 ≤ 70368744177664) (hs' : m2 ≤ 70368744177664) (hk : false = (decide (0 < (sg t1 (val ys1)).sign) && decide (0 < (sg t2 (val ys2)).sign))) :
    Calls Tryd.prog 14 #[.agg #[.bool s1, .slice p1 n1 c1, .bool t1, .slice q1 m1 d1], .agg #[.bool s2, .slice p2 n2 c2, .bool t2, .slice q2 m2 d2]] w fun e w' => e = .returned (.tuple #[.agg #[.bool false, .slice none 0 0, .bool false, .slice none 0 0], .int .i64 30]) ∧ Below w.heap.size w w' := by
  obtain ⟨W, g, hg, hW, a0, a1, a2, a3, e0, e1, e2, e3, HI⟩ := renter2 w s1 p1 n1 c1 t1 q1 m1 d1 s2 p2 n2 c2 t2 q2 m2 d2
  have B3 := below_alloc W (.cells #[.bool s1, .slice p1 n1 c1, .bool t1, .slice q1 m1 d1, .bool s2, .slice p2 n2 c2, .bool t2, .slice q2 m2 d2] 26)
  have HI3 := hid (HI.out.call B3)
  have MB := hid (mayBe2 _ _ s1 p1 n1 c1 t1 q1 m1 d1 s2 p2 n2 c2 t2 q2 m2 d2 ys1 ys2 (heap_alloc_last W _) (h1.below HI3.out.below) (h2.below HI3.out.below) hs hs' false hk)
  clear h1 h2 hk B3
  go_enter Tryd.func14, Tryd.ntmps14
  go_wp2_with fail
  refine MB.out.mono ?_
  rintro e w1 ⟨rfl, hB⟩
  have HF := hid (HI3.out.call hB)
  obtain ⟨i1, i2, i3, i4, i5, i6, i7, i8, x3⟩ := HF.out.box
  have k0 := x3.at0
  have k1 := x3.at1
  have k2 := x3.at2
  have k3 := x3.at3
  have k4 := x3.frozen 0
  have k5 := x3.frozen 1
  have k6 := x3.frozen 2
  have k7 := x3.frozen 3
  clear hB MB
  go_wp2
  have hc := x3.set false none 0 0 false none 0 0
  have hc0 := hc.at0
  have hc1 := hc.at1
  have hc2 := hc.at2
  have hc3 := hc.at3
  refine bodyPost_ret (by simp [results, Tryd.results14, go_sem, hc0, hc1, hc2, hc3]; try rfl) rfl ?_
  exact ⟨rfl, below_set4 HF.out.below HF.out.fresh⟩

set_option maxHeartbeats 8000000 in
theorem ratmul_ok (w : World) (s1 : Bool) (p1 : Option Addr) (n1 c1 : Nat) (xs1 : List Nat) (q1 : Option Addr) (m1 d1 : Nat) (ys1 : List Nat) (s2 : Bool) (p2 : Option Addr) (n2 c2 : Nat) (xs2 : List Nat) (q2 : Option Addr) (m2 d2 : Nat) (ys2 : List Nat)
    (h1 : Sl w p1 n1 c1 xs1) (g1 : Sl w q1 m1 d1 ys1) (h2 : Sl w p2 n2 c2 xs2) (g2 : Sl w q2 m2 d2 ys2) (y1 : val ys1 ≠ 0) (y2 : val ys2 ≠ 0) (b1 : n1 ≤ 8388608) (b2 : m1 ≤ 8388608) (b3 : n2 ≤ 8388608) (b4 : m2 ≤ 8388608) :
    Calls Tryd.prog 9 #[.agg #[.bool s1, .slice p1 n1 c1, .bool false, .slice q1 m1 d1], .agg #[.bool s2, .slice p2 n2 c2, .bool false, .slice q2 m2 d2]] w (RtE w (nR (sw false (sg s1 (val xs1) * sg s2 (val xs2))) (val ys1 * val ys2)) (dR (sw false (sg s1 (val xs1) * sg s2 (val xs2))) (val ys1 * val ys2)) 67108864 67108864) := by
  obtain ⟨W, g, hg, hW, a0, a1, a2, a3, e0, e1, e2, e3, HI⟩ := renter2 w s1 p1 n1 c1 false q1 m1 d1 s2 p2 n2 c2 false q2 m2 d2
  have B3 := below_alloc W (.cells #[.bool s1, .slice p1 n1 c1, .bool false, .slice q1 m1 d1, .bool s2, .slice p2 n2 c2, .bool false, .slice q2 m2 d2] 26)
  have HI3 := hid (HI.out.call B3)
  have MB := hid (mayBe2 _ _ s1 p1 n1 c1 false q1 m1 d1 s2 p2 n2 c2 false q2 m2 d2 ys1 ys2 (heap_alloc_last W _) (g1.below HI3.out.below) (g2.below HI3.out.below) (by omega) (by omega) true (by rw [sign_pos y1, sign_pos y2]; rfl))
  have y0 : val ys1 * val ys2 ≠ 0 := Nat.mul_ne_zero y1 y2
  have M1 : Hid (∀ W', Below w.heap.size w W' → _) := fun W' hb => zmul_g W' s1 s2 p1 p2 n1 c1 n2 c2 xs1 xs2 _ _ rfl rfl (h1.below hb) (h2.below hb) (by omega)
  have M2 : Hid (∀ W', Below w.heap.size w W' → Calls Tryd.prog 27 #[.agg #[.bool false, .slice q1 m1 d1], .agg #[.bool false, .slice q2 m2 d2]] W' fun e w' => ∃ L r cr, e = .returned (.agg #[.bool false, .slice r L cr]) ∧ Below W'.heap.size W' w' ∧ Hid (Sl w' r L cr (digs (val ys1 * val ys2))) ∧ L ≤ m1 + m2) := by
    intro W' hb
    refine (zmul_g W' false false q1 q2 m1 d1 m2 d2 ys1 ys2 _ _ rfl rfl (g1.below hb) (g2.below hb) (by omega)).mono ?_
    rintro e w' ⟨b, L, D, r, cr, rfl, z1, z2, z3, z4⟩
    obtain ⟨rfl, rfl⟩ := den_nm z3.out y0
    exact ⟨L, r, cr, rfl, z1, z2, z4⟩
  have MK := hid (fun (W' : World) (b : Bool) (L : Nat) (D : List Nat) (r : Option Addr) (cr L' : Nat) (r' : Option Addr) (cr' : Nat) (u1 : Sl W' r L cr D) (u2 : Nm b L D (sg s1 (val xs1) * sg s2 (val xs2))) (u3 : Sl W' r' L' cr' (digs (val ys1 * val ys2))) (l : L ≤ 67108864) (l' : L' ≤ 67108864) => lowest_any W' b L D r cr L' r' cr' (sg s1 (val xs1) * sg s2 (val xs2)) (val ys1 * val ys2) u1 u2 u3 y0 l l')
  have d0 := cell_below a0 B3
  have d1' := cell_below a1 B3
  have d2' := cell_below a2 B3
  have d3 := cell_below a3 B3
  have f0 := cell_below e0 B3
  have f1 := cell_below e1 B3
  have f2 := cell_below e2 B3
  have f3 := cell_below e3 B3
  generalize (sg s1 (val xs1) * sg s2 (val xs2)) = P at *
  generalize (val ys1 * val ys2) = Y at *
  clear y0
  clear h1 g1 h2 g2 y1 y2 B3
  have u0 : g + 1 + 1 ≠ g := by omega
  have u1 : g + 1 + 1 ≠ g + 1 := by omega
  go_enter Tryd.func9, Tryd.ntmps9
  go_wp2_with fail
  refine MB.out.mono ?_
  rintro e w1 ⟨rfl, hB⟩
  have HF := hid (HI3.out.call hB)
  replace d0 := cell_below d0 hB
  replace d1' := cell_below d1' hB
  replace d2' := cell_below d2' hB
  replace d3 := cell_below d3 hB
  replace f0 := cell_below f0 hB
  replace f1 := cell_below f1 hB
  replace f2 := cell_below f2 hB
  replace f3 := cell_below f3 hB
  clear hB MB a0 a1 a2 a3 e0 e1 e2 e3 hW HI HI3
  go_wp2
  go_region_held3 (fun w' => w'.cell? ⟨g, 0, none⟩ = some (.bool s1) ∧ w'.cell? ⟨g, 1, none⟩ = some (.slice p1 n1 c1) ∧ w'.cell? ⟨g, 2, none⟩ = some (.bool false) ∧ w'.cell? ⟨g, 3, none⟩ = some (.slice q1 m1 d1) ∧ w'.cell? ⟨g + 1, 0, none⟩ = some (.bool s2) ∧ w'.cell? ⟨g + 1, 1, none⟩ = some (.slice p2 n2 c2) ∧ w'.cell? ⟨g + 1, 2, none⟩ = some (.bool false) ∧ w'.cell? ⟨g + 1, 3, none⟩ = some (.slice q2 m2 d2) ∧ Hid (RInv w w' (g + 1 + 1)))
    (first | (with_reducible exact keepR8 (by assumption) hBz) | (with_reducible exact keepR8s (by assumption) u0 u0 u0 u0 u1 u1 u1 u1) | (exact ⟨d0, d1', d2', d3, f0, f1, f2, f3, HF.out.drew⟩) | fail)
    (first | (go_at_call_of 27 (Value.slice p1 n1 c1); refine (M1.out _ (invR8 (by assumption)).below).mono ?_; rintro e wa ⟨bs, Ls, Ds, rs, ks, rfl, hBz, Ss, Ns, ls⟩)
           | (go_at_call_of 27 (Value.slice q1 m1 d1); refine (M2.out _ (invR8 (by assumption)).below).mono ?_; rintro e wb ⟨Ld, rd, kd, rfl, hBz, Sd, ld⟩; have Ss2 := hid (Ss.out.below hBz))
           | (go_at_call 26; refine (MK.out _ bs Ls Ds rs ks Ld rd kd Ss2.out Ns.out Sd.out (by omega) (by omega)).mono ?_; rintro e w9 ⟨b2, L2, D2, r2, k2, L3, r3, k3, rfl, hBz, S2, S3, N2, l2, l3, o2, o3⟩; have hlt := hid (RInv.lt (invR8 (w := w) (g2 := g + 1 + 1) (by assumption))); have hI2 := hid ((invR8 (w := w) (g2 := g + 1 + 1) (by assumption)).call hBz); obtain ⟨i1, i2, i3, i4, i5, i6, i7, i8, hx3⟩ := hI2.out.box; have k0 := hx3.at0; have k1 := hx3.at1; have k2' := hx3.at2; have k3' := hx3.at3; have k4 := hx3.frozen 0; have k5 := hx3.frozen 1; have k6 := hx3.frozen 2; have k7 := hx3.frozen 3))
  go_wp2
  have hc := hx3.set b2 r2 L2 k2 false r3 L3 k3
  have hc0 := hc.at0
  have hc1 := hc.at1
  have hc2 := hc.at2
  have hc3 := hc.at3
  refine bodyPost_ret (by simp [results, Tryd.results9, go_sem, hc0, hc1, hc2, hc3]; try rfl) rfl ?_
  have hf := hI2.out.fresh
  exact ⟨b2, L2, D2, r2, k2, L3, r3, k3, rfl, below_set4 hI2.out.below hf, sl_set4 S2.out (fun b o e => by have := o2.out b o e; have := hlt.out; omega), sl_set4 S3.out (fun b o e => by have := o3.out b o e; have := hlt.out; omega), N2.out, by omega, by omega, fun b o e => by have := o2.out b o e; have := hlt.out; omega, fun b o e => by have := o3.out b o e; have := hlt.out; omega⟩

set_option maxHeartbeats 8000000 in
theorem ratdiv_ok (w : World) (s1 : Bool) (p1 : Option Addr) (n1 c1 : Nat) (xs1 : List Nat) (q1 : Option Addr) (m1 d1 : Nat) (ys1 : List Nat) (s2 : Bool) (p2 : Option Addr) (n2 c2 : Nat) (xs2 : List Nat) (q2 : Option Addr) (m2 d2 : Nat) (ys2 : List Nat)
    (h1 : Sl w p1 n1 c1 xs1) (g1 : Sl w q1 m1 d1 ys1) (h2 : Sl w p2 n2 c2 xs2) (g2 : Sl w q2 m2 d2 ys2) (y1 : val ys1 ≠ 0) (y2 : val ys2 ≠ 0) (x2 : val xs2 ≠ 0) (b1 : n1 ≤ 8388608) (b2 : m1 ≤ 8388608) (b3 : n2 ≤ 8388608) (b4 : m2 ≤ 8388608) :
    Calls Tryd.prog 14 #[.agg #[.bool s1, .slice p1 n1 c1, .bool false, .slice q1 m1 d1], .agg #[.bool s2, .slice p2 n2 c2, .bool false, .slice q2 m2 d2]] w (RtE w (nR (sw s2 (sg s1 (val xs1) * sg false (val ys2))) (val ys1 * val xs2)) (dR (sw s2 (sg s1 (val xs1) * sg false (val ys2))) (val ys1 * val xs2)) 67108864 67108864) := by
  obtain ⟨W, g, hg, hW, a0, a1, a2, a3, e0, e1, e2, e3, HI⟩ := renter2 w s1 p1 n1 c1 false q1 m1 d1 s2 p2 n2 c2 false q2 m2 d2
  have B3 := below_alloc W (.cells #[.bool s1, .slice p1 n1 c1, .bool false, .slice q1 m1 d1, .bool s2, .slice p2 n2 c2, .bool false, .slice q2 m2 d2] 26)
  have HI3 := hid (HI.out.call B3)
  have MB := hid (mayBe2 _ _ s1 p1 n1 c1 false q1 m1 d1 s2 p2 n2 c2 false q2 m2 d2 ys1 ys2 (heap_alloc_last W _) (g1.below HI3.out.below) (g2.below HI3.out.below) (by omega) (by omega) true (by rw [sign_pos y1, sign_pos y2]; rfl))
  have y0 : val ys1 * val xs2 ≠ 0 := Nat.mul_ne_zero y1 x2
  have M1 : Hid (∀ W', Below w.heap.size w W' → _) := fun W' hb => zmul_g W' s1 false p1 q2 n1 c1 m2 d2 xs1 ys2 _ _ rfl rfl (h1.below hb) (g2.below hb) (by omega)
  have M2 : Hid (∀ W', Below w.heap.size w W' → Calls Tryd.prog 27 #[.agg #[.bool false, .slice q1 m1 d1], .agg #[.bool s2, .slice p2 n2 c2]] W' fun e w' => ∃ L r cr, e = .returned (.agg #[.bool s2, .slice r L cr]) ∧ Below W'.heap.size W' w' ∧ Hid (Sl w' r L cr (digs (val ys1 * val xs2))) ∧ L ≤ m1 + n2) := by
    intro W' hb
    refine (zmul_g W' false s2 q1 p2 m1 d1 n2 c2 ys1 xs2 _ _ rfl rfl (g1.below hb) (h2.below hb) (by omega)).mono ?_
    rintro e w' ⟨b, L, D, r, cr, rfl, z1, z2, z3, z4⟩
    obtain ⟨rfl, rfl⟩ := den_nm z3.out y0
    exact ⟨L, r, cr, rfl, z1, z2, z4⟩
  have MK := hid (fun (W' : World) (b : Bool) (L : Nat) (D : List Nat) (r : Option Addr) (cr L' : Nat) (r' : Option Addr) (cr' : Nat) (u1 : Sl W' r L cr D) (u2 : Nm b L D (sg s1 (val xs1) * sg false (val ys2))) (u3 : Sl W' r' L' cr' (digs (val ys1 * val xs2))) (l : L ≤ 67108864) (l' : L' ≤ 67108864) => ratmake_any W' s2 b L D r cr L' r' cr' (sg s1 (val xs1) * sg false (val ys2)) (val ys1 * val xs2) u1 u2 u3 y0 l l')
  have d0 := cell_below a0 B3
  have d1' := cell_below a1 B3
  have d2' := cell_below a2 B3
  have d3 := cell_below a3 B3
  have f0 := cell_below e0 B3
  have f1 := cell_below e1 B3
  have f2 := cell_below e2 B3
  have f3 := cell_below e3 B3
  generalize (sg s1 (val xs1) * sg false (val ys2)) = P at *
  generalize (val ys1 * val xs2) = Y at *
  clear y0 x2
  clear h1 g1 h2 g2 y1 y2 B3
  have u0 : g + 1 + 1 ≠ g := by omega
  have u1 : g + 1 + 1 ≠ g + 1 := by omega
  go_enter Tryd.func14, Tryd.ntmps14
  go_wp2_with fail
  refine MB.out.mono ?_
  rintro e w1 ⟨rfl, hB⟩
  have HF := hid (HI3.out.call hB)
  replace d0 := cell_below d0 hB
  replace d1' := cell_below d1' hB
  replace d2' := cell_below d2' hB
  replace d3 := cell_below d3 hB
  replace f0 := cell_below f0 hB
  replace f1 := cell_below f1 hB
  replace f2 := cell_below f2 hB
  replace f3 := cell_below f3 hB
  clear hB MB a0 a1 a2 a3 e0 e1 e2 e3 hW HI HI3
  go_wp2
  go_region_held3 (fun w' => w'.cell? ⟨g, 0, none⟩ = some (.bool s1) ∧ w'.cell? ⟨g, 1, none⟩ = some (.slice p1 n1 c1) ∧ w'.cell? ⟨g, 2, none⟩ = some (.bool false) ∧ w'.cell? ⟨g, 3, none⟩ = some (.slice q1 m1 d1) ∧ w'.cell? ⟨g + 1, 0, none⟩ = some (.bool s2) ∧ w'.cell? ⟨g + 1, 1, none⟩ = some (.slice p2 n2 c2) ∧ w'.cell? ⟨g + 1, 2, none⟩ = some (.bool false) ∧ w'.cell? ⟨g + 1, 3, none⟩ = some (.slice q2 m2 d2) ∧ Hid (RInv w w' (g + 1 + 1)))
    (first | (with_reducible exact keepR8 (by assumption) hBz) | (with_reducible exact keepR8s (by assumption) u0 u0 u0 u0 u1 u1 u1 u1) | (exact ⟨d0, d1', d2', d3, f0, f1, f2, f3, HF.out.drew⟩) | fail)
    (first | (go_at_call_of 27 (Value.slice p1 n1 c1); refine (M1.out _ (invR8 (by assumption)).below).mono ?_; rintro e wa ⟨bs, Ls, Ds, rs, ks, rfl, hBz, Ss, Ns, ls⟩)
           | (go_at_call_of 27 (Value.slice q1 m1 d1); refine (M2.out _ (invR8 (by assumption)).below).mono ?_; rintro e wb ⟨Ld, rd, kd, rfl, hBz, Sd, ld⟩; have Ss2 := hid (Ss.out.below hBz))
           | (go_at_call 12; refine (MK.out _ bs Ls Ds rs ks Ld rd kd Ss2.out Ns.out Sd.out (by omega) (by omega)).mono ?_; rintro e w9 ⟨b2, L2, D2, r2, k2, L3, r3, k3, rfl, hBz, S20, S30, N20, l2, l3, o2, o3⟩; have S2 := hid S20; have S3 := hid S30; have N2 := hid N20; clear S20 S30 N20; have hlt := hid (RInv.lt (invR8 (w := w) (g2 := g + 1 + 1) (by assumption))); have hI2 := hid ((invR8 (w := w) (g2 := g + 1 + 1) (by assumption)).call hBz); obtain ⟨i1, i2, i3, i4, i5, i6, i7, i8, hx3⟩ := hI2.out.box; have k0 := hx3.at0; have k1 := hx3.at1; have k2' := hx3.at2; have k3' := hx3.at3; have k4 := hx3.frozen 0; have k5 := hx3.frozen 1; have k6 := hx3.frozen 2; have k7 := hx3.frozen 3))
  go_wp2
  have hc := hx3.set b2 r2 L2 k2 false r3 L3 k3
  have hc0 := hc.at0
  have hc1 := hc.at1
  have hc2 := hc.at2
  have hc3 := hc.at3
  refine bodyPost_ret (by simp [results, Tryd.results14, go_sem, hc0, hc1, hc2, hc3]; try rfl) rfl ?_
  have hf := hI2.out.fresh
  exact ⟨b2, L2, D2, r2, k2, L3, r3, k3, rfl, below_set4 hI2.out.below hf, sl_set4 S2.out (fun b o e => by have := o2.out b o e; have := hlt.out; omega), sl_set4 S3.out (fun b o e => by have := o3.out b o e; have := hlt.out; omega), N2.out, by omega, by omega, fun b o e => by have := o2.out b o e; have := hlt.out; omega, fun b o e => by have := o3.out b o e; have := hlt.out; omega⟩

set_option maxHeartbeats 8000000 in
theorem ratdiv_zero (w : World) (s1 : Bool) (p1 : Option Addr) (n1 c1 : Nat) (xs1 : List Nat) (q1 : Option Addr) (m1 d1 : Nat) (ys1 : List Nat) (s2 : Bool) (p2 : Option Addr) (n2 c2 : Nat) (xs2 : List Nat) (q2 : Option Addr) (m2 d2 : Nat) (ys2 : List Nat)
    (h1 : Sl w p1 n1 c1 xs1) (g1 : Sl w q1 m1 d1 ys1) (h2 : Sl w p2 n2 c2 xs2) (g2 : Sl w q2 m2 d2 ys2) (y1 : val ys1 ≠ 0) (y2 : val ys2 ≠ 0) (x2 : val xs2 = 0) (b1 : n1 ≤ 8388608) (b2 : m1 ≤ 8388608) (b3 : n2 ≤ 8388608) (b4 : m2 ≤ 8388608) :
    Calls Tryd.prog 14 #[.agg #[.bool s1, .slice p1 n1 c1, .bool false, .slice q1 m1 d1], .agg #[.bool s2, .slice p2 n2 c2, .bool false, .slice q2 m2 d2]] w fun e w' => e = .returned (.tuple #[.agg #[.bool false, .slice none 0 0, .bool false, .slice none 0 0], .int .i64 11]) ∧ Below w.heap.size w w' := by
  obtain ⟨W, g, hg, hW, a0, a1, a2, a3, e0, e1, e2, e3, HI⟩ := renter2 w s1 p1 n1 c1 false q1 m1 d1 s2 p2 n2 c2 false q2 m2 d2
  have B3 := below_alloc W (.cells #[.bool s1, .slice p1 n1 c1, .bool false, .slice q1 m1 d1, .bool s2, .slice p2 n2 c2, .bool false, .slice q2 m2 d2] 26)
  have HI3 := hid (HI.out.call B3)
  have MB := hid (mayBe2 _ _ s1 p1 n1 c1 false q1 m1 d1 s2 p2 n2 c2 false q2 m2 d2 ys1 ys2 (heap_alloc_last W _) (g1.below HI3.out.below) (g2.below HI3.out.below) (by omega) (by omega) true (by rw [sign_pos y1, sign_pos y2]; rfl))
  have M1 : Hid (∀ W', Below w.heap.size w W' → _) := fun W' hb => zmul_g W' s1 false p1 q2 n1 c1 m2 d2 xs1 ys2 _ _ rfl rfl (h1.below hb) (g2.below hb) (by omega)
  have M2 : Hid (∀ W', Below w.heap.size w W' → Calls Tryd.prog 27 #[.agg #[.bool false, .slice q1 m1 d1], .agg #[.bool s2, .slice p2 n2 c2]] W' fun e w' => ∃ b L D r cr, e = .returned (.agg #[.bool b, .slice r L cr]) ∧ Below W'.heap.size W' w' ∧ Hid (Sl w' r L cr D) ∧ Hid (val D = 0) ∧ L ≤ m1 + n2) := by
    intro W' hb
    refine (zmul_g W' false s2 q1 p2 m1 d1 n2 c2 ys1 xs2 _ _ rfl rfl (g1.below hb) (h2.below hb) (by omega)).mono ?_
    rintro e w' ⟨b, L, D, r, cr, rfl, z1, z2, z3, z4⟩
    exact ⟨b, L, D, r, cr, rfl, z1, z2, den_nm0 z3.out x2, z4⟩
  have d0 := cell_below a0 B3
  have d1' := cell_below a1 B3
  have d2' := cell_below a2 B3
  have d3 := cell_below a3 B3
  have f0 := cell_below e0 B3
  have f1 := cell_below e1 B3
  have f2 := cell_below e2 B3
  have f3 := cell_below e3 B3
  generalize (sg s1 (val xs1) * sg false (val ys2)) = P at *
  clear x2
  clear h1 g1 h2 g2 y1 y2 B3
  have u0 : g + 1 + 1 ≠ g := by omega
  have u1 : g + 1 + 1 ≠ g + 1 := by omega
  go_enter Tryd.func14, Tryd.ntmps14
  go_wp2_with fail
  refine MB.out.mono ?_
  rintro e w1 ⟨rfl, hB⟩
  have HF := hid (HI3.out.call hB)
  replace d0 := cell_below d0 hB
  replace d1' := cell_below d1' hB
  replace d2' := cell_below d2' hB
  replace d3 := cell_below d3 hB
  replace f0 := cell_below f0 hB
  replace f1 := cell_below f1 hB
  replace f2 := cell_below f2 hB
  replace f3 := cell_below f3 hB
  clear hB MB a0 a1 a2 a3 e0 e1 e2 e3 hW HI HI3
  go_wp2
  go_region_held3 (fun w' => w'.cell? ⟨g, 0, none⟩ = some (.bool s1) ∧ w'.cell? ⟨g, 1, none⟩ = some (.slice p1 n1 c1) ∧ w'.cell? ⟨g, 2, none⟩ = some (.bool false) ∧ w'.cell? ⟨g, 3, none⟩ = some (.slice q1 m1 d1) ∧ w'.cell? ⟨g + 1, 0, none⟩ = some (.bool s2) ∧ w'.cell? ⟨g + 1, 1, none⟩ = some (.slice p2 n2 c2) ∧ w'.cell? ⟨g + 1, 2, none⟩ = some (.bool false) ∧ w'.cell? ⟨g + 1, 3, none⟩ = some (.slice q2 m2 d2) ∧ Hid (RInv w w' (g + 1 + 1)))
    (first | (with_reducible exact keepR8 (by assumption) hBz) | (with_reducible exact keepR8s (by assumption) u0 u0 u0 u0 u1 u1 u1 u1) | (exact ⟨d0, d1', d2', d3, f0, f1, f2, f3, HF.out.drew⟩) | fail)
    (first | (go_at_call_of 27 (Value.slice p1 n1 c1); refine (M1.out _ (invR8 (by assumption)).below).mono ?_; rintro e wa ⟨bs, Ls, Ds, rs, ks, rfl, hBz, Ss, Ns, ls⟩)
           | (go_at_call_of 27 (Value.slice q1 m1 d1); refine (M2.out _ (invR8 (by assumption)).below).mono ?_; rintro e wb ⟨bd, Ld, Dd, rd, kd, rfl, hBz, Sd, hD, ld⟩; have Ss2 := hid (Ss.out.below hBz))
           | (go_at_call 12; refine (ratmake_zero _ bs bd rs rd Ls ks Ld kd Dd Sd.out hD.out (by omega)).mono ?_; rintro e w9 ⟨rfl, hBz⟩; have hlt := hid (RInv.lt (invR8 (w := w) (g2 := g + 1 + 1) (by assumption))); have hI2 := hid ((invR8 (w := w) (g2 := g + 1 + 1) (by assumption)).call hBz); obtain ⟨i1, i2, i3, i4, i5, i6, i7, i8, hx3⟩ := hI2.out.box; have k0 := hx3.at0; have k1 := hx3.at1; have k2' := hx3.at2; have k3' := hx3.at3; have k4 := hx3.frozen 0; have k5 := hx3.frozen 1; have k6 := hx3.frozen 2; have k7 := hx3.frozen 3))
  go_wp2
  have hc := hx3.set false none 0 0 false none 0 0
  have hc0 := hc.at0
  have hc1 := hc.at1
  have hc2 := hc.at2
  have hc3 := hc.at3
  refine bodyPost_ret (by simp [results, Tryd.results14, go_sem, hc0, hc1, hc2, hc3]; try rfl) rfl ?_
  exact ⟨rfl, below_set4 hI2.out.below hI2.out.fresh⟩

end Go.Proofs.YteamecapeghnoaaDoor
