/-
  The document's Make, of a denominator below 0.
-/
import Derived.Test.YteamecapeghnoaaGreatDoorRMake
import Derived.Test.YteamecapeghnoaaGreatDoorSetF
namespace Go.Proofs.YteamecapeghnoaaGreatDoor
open Go.RowKit Nt
set_option linter.unusedSimpArgs false
set_option linter.unusedVariables false
set_option maxRecDepth 20000

theorem rboxFar1 {w : World} {b b' n c m d : Nat} {s t : Bool} {p q : Option Addr} {v0 v1 : Value} (h : RBox w b s p n c t q m d) (hb : b ≠ b') : RBox ((w.setCell ⟨b', 0, none⟩ v0).setCell ⟨b', 1, none⟩ v1) b s p n c t q m d := by
  show _ = _
  rw [Below.heap_setCell _ _ _ _ (by simpa using hb), Below.heap_setCell _ _ _ _ (by simpa using hb)]
  exact h

set_option maxHeartbeats 4000000 in
theorem rmake_neg (w : World) (s : Bool) (p q : Option Addr) (n c m d : Nat) (xs ys : List Nat) (h : Sl w p n c xs) (h' : Sl w q m d ys) (hy : val ys ≠ 0) (hs : n + 1 ≤ 35184372088831) (hs' : m + 1 ≤ 35184372088831) :
    Calls Tryz.prog 26 #[.agg #[.bool s, .slice p n c], .agg #[.bool true, .slice q m d]] w (Rt w (sg (!s) (val xs / Nat.gcd (val xs) (val ys))) (val ys / Nat.gcd (val xs) (val ys)) n m) := by
  have B1 := below_alloc w (.cells #[.bool s, .slice p n c] 24)
  have B2 := below_alloc (w.alloc (.cells #[.bool s, .slice p n c] 24)) (.cells #[.bool true, .slice q m d] 24)
  have B3 := below_alloc ((w.alloc (.cells #[.bool s, .slice p n c] 24)).alloc (.cells #[.bool true, .slice q m d] 24)) (.cells #[.bool false, .slice none 0 0, .bool false, .slice none 0 0] 26)
  have X1 := ((box_alloc w s p n c).below B2).below B3
  have X2 := (box_alloc (w.alloc (.cells #[.bool s, .slice p n c] 24)) true q m d).below B3
  have X3 := rbox_alloc ((w.alloc (.cells #[.bool s, .slice p n c] 24)).alloc (.cells #[.bool true, .slice q m d] 24)) false none 0 0 false none 0 0
  rw [show (w.alloc (.cells #[.bool s, .slice p n c] 24)).heap.size = w.heap.size + 1 from by simp] at X2
  rw [show ((w.alloc (.cells #[.bool s, .slice p n c] 24)).alloc (.cells #[.bool true, .slice q m d] 24)).heap.size = w.heap.size + 1 + 1 from by simp] at X3
  have HB := hid (B1.trans ((B2.trans (B3.mono B2.size)).mono B1.size))
  obtain ⟨W, hW⟩ : ∃ W, ((w.alloc (.cells #[.bool s, .slice p n c] 24)).alloc (.cells #[.bool true, .slice q m d] 24)).alloc (.cells #[.bool false, .slice none 0 0, .bool false, .slice none 0 0] 26) = W := ⟨_, rfl⟩
  rw [hW] at X1 X2 X3 HB
  obtain ⟨g, hg⟩ : ∃ g, w.heap.size = g := ⟨_, rfl⟩
  rw [hg] at X1 X2 X3
  have a0 := X1.at0
  have a1 := X1.at1
  have b0 := X2.at0
  have b1 := X2.at1
  have HX3 := hid X3
  have HH := hid h
  have HH' := hid h'
  have N1 := zrnorm_c W s p n c xs (h.below HB.out) (by omega)
  obtain ⟨x, hx⟩ : ∃ x, val xs = x := ⟨_, rfl⟩
  obtain ⟨y, hyy⟩ : ∃ y, val ys = y := ⟨_, rfl⟩
  have lx : (digs x).length ≤ n := by rw [← hx]; exact h.dl
  have ly : (digs y).length ≤ m := by rw [← hyy]; exact h'.dl
  rw [hx, sg_abs] at N1
  rw [hx, hyy]
  rw [hyy] at hy
  obtain ⟨bn, hbn⟩ : ∃ b, ng (sg s x) = b := ⟨_, rfl⟩
  obtain ⟨Ln, hLn⟩ : ∃ L, (digs x).length = L := ⟨_, rfl⟩
  obtain ⟨Ld, hLd⟩ : ∃ L, (digs y).length = L := ⟨_, rfl⟩
  rw [hbn, hLn] at N1
  rw [hLn] at lx
  rw [hLd] at ly
  have HN1 := hid N1
  have N2 : Hid (∀ W', Below w.heap.size w W' → Calls Tryz.prog 50 #[.agg #[.bool true, .slice q m d]] W' fun e w' => ∃ r cr, e = .returned (.agg #[.bool true, .slice r Ld cr]) ∧ Below W'.heap.size W' w' ∧ Sl w' r Ld cr (digs y) ∧ ∀ b o, r = some ⟨b, o, none⟩ → W'.heap.size ≤ b) := by
    intro W' hb
    have := zrnorm_c W' true q m d ys (h'.below hb) (by omega)
    rw [hyy, sg_abs, hLd, show ng (sg true y) = true from by unfold ng sg; simp; omega] at this
    refine this.mono ?_
    rintro e w' ⟨r, cr, rfl, Z⟩
    have hz := Z.sl
    rw [sg_abs, hLd] at hz
    exact ⟨r, cr, rfl, Z.below, hz, Z.fresh⟩
  have SG : Hid (∀ W' (r : Option Addr) (cr : Nat), Sl W' r Ld cr (digs y) → Calls Tryz.prog 51 #[.agg #[.bool true, .slice r Ld cr]] W' fun e w' => e = .returned (.int .i64 (-1)) ∧ Below W'.heap.size W' w') := by
    intro W' r cr hr
    have := zrsign_c W' true r Ld cr (digs y) hr (by omega)
    rw [val_digs, show (sg true y).sign = -1 from by unfold sg; simp; omega] at this
    exact this
  obtain ⟨bm, hbm⟩ : ∃ b, ng (sg (!s) x) = b := ⟨_, rfl⟩
  have NG1 : Hid (∀ W' (r : Option Addr) (cr : Nat), Sl W' r Ln cr (digs x) → Calls Tryz.prog 52 #[.agg #[.bool bn, .slice r Ln cr]] W' fun e w' => ∃ r cr, e = .returned (.agg #[.bool bm, .slice r Ln cr]) ∧ Below W'.heap.size W' w' ∧ Sl w' r Ln cr (digs x) ∧ ∀ b o, r = some ⟨b, o, none⟩ → W'.heap.size ≤ b) := by
    intro W' r cr hr
    have := zrneg_c W' bn r Ln cr (digs x) hr (by omega)
    have e1 : - sg bn (val (digs x)) = sg (!s) x := by
      rw [val_digs, ← hbn]
      cases s <;> unfold ng sg <;> simp <;> omega
    rw [e1, sg_abs, hLn, hbm] at this
    refine this.mono ?_
    rintro e w' ⟨r, cr, rfl, Z⟩
    have hz := Z.sl
    rw [sg_abs, hLn] at hz
    exact ⟨r, cr, rfl, Z.below, hz, Z.fresh⟩
  have NG2 : Hid (∀ W' (r : Option Addr) (cr : Nat), Sl W' r Ld cr (digs y) → Calls Tryz.prog 52 #[.agg #[.bool true, .slice r Ld cr]] W' fun e w' => ∃ r cr, e = .returned (.agg #[.bool false, .slice r Ld cr]) ∧ Below W'.heap.size W' w' ∧ Sl w' r Ld cr (digs y) ∧ ∀ b o, r = some ⟨b, o, none⟩ → W'.heap.size ≤ b) := by
    intro W' r cr hr
    have := zrneg_c W' true r Ld cr (digs y) hr (by omega)
    have e1 : - sg true (val (digs y)) = sg false y := by
      rw [val_digs]
      unfold sg
      simp
    rw [e1, sg_abs, hLd, show ng (sg false y) = false from by unfold ng sg; simp] at this
    refine this.mono ?_
    rintro e w' ⟨r, cr, rfl, Z⟩
    have hz := Z.sl
    rw [sg_abs, hLd] at hz
    exact ⟨r, cr, rfl, Z.below, hz, Z.fresh⟩
  obtain ⟨G, hG⟩ : ∃ G, Nat.gcd x y = G := ⟨_, rfl⟩
  have hG0 : G ≠ 0 := by rw [← hG]; exact fun e => hy (Nat.eq_zero_of_gcd_eq_zero_right e)
  obtain ⟨Lg, hLg⟩ : ∃ L, (digs G).length = L := ⟨_, rfl⟩
  have lg : Lg ≤ m := by rw [← hLg, ← hG]; exact Nat.le_trans (digs_length_mono (Nat.gcd_le_right x (Nat.pos_of_ne_zero hy))) (by rw [hLd]; exact ly)
  have GC : Hid (∀ W' (r : Option Addr) (cr : Nat) (r' : Option Addr) (cr' : Nat), Sl W' r Ln cr (digs x) → Sl W' r' Ld cr' (digs y) → Calls Tryz.prog 53 #[.slice r Ln cr, .slice r' Ld cr'] W' fun e w' => ∃ r cr, e = .returned (.slice r Lg cr) ∧ Below W'.heap.size W' w' ∧ Sl w' r Lg cr (digs G)) := by
    intro W' r cr r' cr' h1 h2
    have := rgcd_c W' r r' Ln cr Ld cr' (digs x) (digs y) h1 h2 (by omega) (by omega)
    rw [val_digs, val_digs, hG, hLg] at this
    refine this.mono ?_
    rintro e w' ⟨r, cr, rfl, A⟩
    have hz := A.sl
    rw [hLg] at hz
    exact ⟨r, cr, rfl, A.below, hz⟩
  obtain ⟨Lx, hLx⟩ : ∃ L, (digs (x / G)).length = L := ⟨_, rfl⟩
  obtain ⟨Ly, hLy⟩ : ∃ L, (digs (y / G)).length = L := ⟨_, rfl⟩
  have lx2 : Lx ≤ n := by rw [← hLx]; exact Nat.le_trans (digs_length_mono (Nat.div_le_self _ _)) (by rw [hLn]; exact lx)
  have ly2 : Ly ≤ m := by rw [← hLy]; exact Nat.le_trans (digs_length_mono (Nat.div_le_self _ _)) (by rw [hLd]; exact ly)
  have DX : Hid (∀ W' (r : Option Addr) (cr : Nat) (r' : Option Addr) (cr' : Nat), Sl W' r Ln cr (digs x) → Sl W' r' Lg cr' (digs G) → Calls Tryz.prog 54 #[.slice r Ln cr, .slice r' Lg cr'] W' fun e w' => ∃ r cr r2 L2 c2, e = .returned (.tuple #[.slice r Lx cr, .slice r2 L2 c2, .int .i64 0]) ∧ Below W'.heap.size W' w' ∧ Sl w' r Lx cr (digs (x / G)) ∧ ∀ b o, r = some ⟨b, o, none⟩ → W'.heap.size ≤ b) := by
    intro W' r cr r' cr' h1 h2
    have := rdiv_c W' r r' Ln cr Lg cr' (digs x) (digs G) h1 h2 (by rw [val_digs]; exact hG0) (by omega) (by omega)
    rw [val_digs, val_digs, hLx] at this
    refine this.mono ?_
    rintro e w' ⟨r, cr, r2, c2, rfl, A, A2⟩
    have hz := A.sl
    rw [hLx] at hz
    exact ⟨r, cr, r2, _, c2, rfl, A.below, hz, A.fresh⟩
  have DY : Hid (∀ W' (r : Option Addr) (cr : Nat) (r' : Option Addr) (cr' : Nat), Sl W' r Ld cr (digs y) → Sl W' r' Lg cr' (digs G) → Calls Tryz.prog 54 #[.slice r Ld cr, .slice r' Lg cr'] W' fun e w' => ∃ r cr r2 L2 c2, e = .returned (.tuple #[.slice r Ly cr, .slice r2 L2 c2, .int .i64 0]) ∧ Below W'.heap.size W' w' ∧ Sl w' r Ly cr (digs (y / G)) ∧ ∀ b o, r = some ⟨b, o, none⟩ → W'.heap.size ≤ b) := by
    intro W' r cr r' cr' h1 h2
    have := rdiv_c W' r r' Ld cr Lg cr' (digs y) (digs G) h1 h2 (by rw [val_digs]; exact hG0) (by omega) (by omega)
    rw [val_digs, val_digs, hLy] at this
    refine this.mono ?_
    rintro e w' ⟨r, cr, r2, c2, rfl, A, A2⟩
    have hz := A.sl
    rw [hLy] at hz
    exact ⟨r, cr, r2, _, c2, rfl, A.below, hz, A.fresh⟩
  have N3 : Hid (∀ W' (r : Option Addr) (cr : Nat), Sl W' r Lx cr (digs (x / G)) → Calls Tryz.prog 50 #[.agg #[.bool bm, .slice r Lx cr]] W' fun e w' => ∃ b1 L1 D1 r cr, e = .returned (.agg #[.bool b1, .slice r L1 cr]) ∧ Below W'.heap.size W' w' ∧ Sl w' r L1 cr D1 ∧ Nm b1 L1 D1 (sg (!s) (x / G)) ∧ L1 ≤ n ∧ ∀ b o, r = some ⟨b, o, none⟩ → W'.heap.size ≤ b) := by
    intro W' r cr hr
    have := zrnorm_c W' bm r Lx cr (digs (x / G)) hr (by omega)
    rw [val_digs, show sg bm (x / G) = sg (!s) (x / G) from by rw [← hbm]; exact sg_same (!s) x G] at this
    refine this.mono ?_
    rintro e w' ⟨r, cr, rfl, Z⟩
    refine ⟨_, _, _, r, cr, rfl, Z.below, Z.sl, Nm.mk' _, ?_, Z.fresh⟩
    rw [sg_abs, hLx]
    exact lx2
  rw [hG]
  have HNx : Hid ((digs x).length = Ln) := hLn
  clear h h' B1 B2 B3 X1 X2 X3 hx hyy hy N1 hbn hbm hLn hLd hG hLg hG0 hLx
  go_enter Tryz.func26, Tryz.ntmps26
  go_wp2_with fail
  refine HN1.out.mono ?_
  rintro e w1 ⟨ro, ko, rfl, Z1⟩
  have C1 := Z1.below
  have So : Hid (Sl w1 ro Ln ko (digs x)) := by have := Z1.sl; rwa [sg_abs, HNx.out] at this
  have C2 := below_alloc w1 (.cells #[.bool bn, .slice ro Ln ko] 24)
  have Xn := box_alloc w1 bn ro Ln ko
  obtain ⟨W1, hW1⟩ : ∃ W1, w1.alloc (.cells #[.bool bn, .slice ro Ln ko] 24) = W1 := ⟨_, rfl⟩
  rw [hW1] at C2 Xn
  have hs1 : W1.heap.size = w1.heap.size + 1 := by rw [← hW1]; simp
  obtain ⟨gn, hgn⟩ : ∃ gn, w1.heap.size = gn := ⟨_, rfl⟩
  rw [hgn] at Xn
  have C12 := C1.trans (C2.mono C1.size)
  have hlg : g + 1 + 1 < gn := by rw [← hgn]; exact Nat.lt_of_lt_of_le HX3.out.lt C1.size
  replace b0 := cell_below b0 C12
  replace b1 := cell_below b1 C12
  replace HX3 := hid (HX3.out.below C12)
  replace HB := hid (HB.out.trans (C12.mono HB.out.size))
  replace So := hid (So.out.below C2)
  have HXn := hid Xn
  clear Z1 C1 C2 C12 HN1 hW a0 a1 Xn
  go_wp2_with fail
  refine (N2.out W1 HB.out).mono ?_
  rintro e w2 ⟨rq, kq, rfl, C3, Sq0, Fq0⟩
  have C4 := below_alloc w2 (.cells #[.bool true, .slice rq Ld kq] 24)
  have Xd := box_alloc w2 true rq Ld kq
  obtain ⟨W2, hW2⟩ : ∃ W2, w2.alloc (.cells #[.bool true, .slice rq Ld kq] 24) = W2 := ⟨_, rfl⟩
  rw [hW2] at C4 Xd
  obtain ⟨gd, hgd⟩ : ∃ gd, w2.heap.size = gd := ⟨_, rfl⟩
  rw [hgd] at Xd
  have C34 := C3.trans (C4.mono C3.size)
  have hdn : gn < gd := by rw [← hgd]; have := C3.size; omega
  have Fq := hid (fun b o (e : rq = some ⟨b, o, none⟩) => show gn < b from by have := Fq0 b o e; omega)
  replace HX3 := hid (HX3.out.below C34)
  replace HB := hid (HB.out.trans (C34.mono HB.out.size))
  replace So := hid (So.out.below C34)
  have Sq := hid (Sq0.below C4)
  replace HXn := hid (HXn.out.below C34)
  have HXd := hid Xd
  have e0 := Xd.at0
  have e1 := Xd.at1
  clear C3 C4 C34 Sq0 Fq0 Xd b0 b1 N2 hW1
  go_wp2_with fail
  refine (SG.out W2 rq kq Sq.out).mono ?_
  rintro e wA ⟨rfl, C5⟩
  replace HX3 := hid (HX3.out.below C5)
  replace HB := hid (HB.out.trans (C5.mono HB.out.size))
  replace So := hid (So.out.below C5)
  replace Sq := hid (Sq.out.below C5)
  have xn := HXn.out.below C5
  have xd := HXd.out.below C5
  have n0 := xn.at0
  have n1 := xn.at1
  have HXn2 := hid xn
  have HXd2 := hid xd
  have hgdl := xd.lt
  clear C5 hW2 SG e0 e1 HXn HXd xn xd
  go_wp2_with fail
  refine (NG1.out wA ro ko So.out).mono ?_
  rintro e wB ⟨rn, kn, rfl, C6, Sn0, Fn0⟩
  replace HX3 := hid (HX3.out.below C6)
  replace HB := hid (HB.out.trans (C6.mono HB.out.size))
  replace Sq := hid (Sq.out.below C6)
  have xn := HXn2.out.below C6
  have xd := HXd2.out.below C6
  have Fn := hid (fun b o (e : rn = some ⟨b, o, none⟩) => show gd < b from by have := Fn0 b o e; omega)
  have Sn1 := hid (sl_set (g2 := gn) (v0 := .bool bm) (v1 := .slice rn Ln kn) Sn0 (fun b o e => by have := Fn.out b o e; omega))
  have Sq1 := hid (sl_set (g2 := gn) (v0 := .bool bm) (v1 := .slice rn Ln kn) Sq.out (fun b o e => by have := Fq.out b o e; omega))
  have xn1 := xn.set bm rn Ln kn
  have xd1 := boxFar (v0 := .bool bm) (v1 := .slice rn Ln kn) xd (show gd ≠ gn by omega)
  have xr1 := rboxFar1 (v0 := .bool bm) (v1 := .slice rn Ln kn) HX3.out (show g + 1 + 1 ≠ gn by omega)
  have vn : w.heap.size ≤ gn := by omega
  have HB1 := hid ((HB.out.setCell (p := ⟨gn, 0, none⟩) vn (.bool bm)).setCell (p := ⟨gn, 1, none⟩) vn (.slice rn Ln kn))
  have k0 := xn.at0
  have k1 := xn.at1
  have k2 := xn.frozen 0
  have k3 := xn.frozen 1
  have e0 := xd1.at0
  have e1 := xd1.at1
  obtain ⟨wC, hwC⟩ : ∃ wC, (wB.setCell ⟨gn, 0, none⟩ (.bool bm)).setCell ⟨gn, 1, none⟩ (.slice rn Ln kn) = wC := ⟨_, rfl⟩
  rw [hwC] at Sn1 Sq1 xn1 xd1 xr1 HB1 e0 e1
  have HXn3 := hid xn1
  have HXd3 := hid xd1
  have HX4 := hid xr1
  have HWC := hid hwC
  have hgdl2 := xd1.lt
  clear C6 Sn0 Fn0 NG1 So Sq HXn2 HXd2 xn xd xn1 xd1 xr1 HB HX3 n0 n1 hgdl
  go_wp2_with fail
  try rw [HWC.out]
  refine (NG2.out wC rq kq Sq1.out).mono ?_
  rintro e wD ⟨rd, kd, rfl, C7, Sd0, Fd0⟩
  have HX5 := hid (HX4.out.below C7)
  have HB2 := hid (HB1.out.trans (C7.mono HB1.out.size))
  have Sn2 := hid (Sn1.out.below C7)
  have xn := HXn3.out.below C7
  have xd := HXd3.out.below C7
  have Fd := hid (fun b o (e : rd = some ⟨b, o, none⟩) => show gd < b from by have := Fd0 b o e; omega)
  have Sn3 := hid (sl_set (g2 := gd) (v0 := .bool false) (v1 := .slice rd Ld kd) Sn2.out (fun b o e => by have := Fn.out b o e; omega))
  have Sd3 := hid (sl_set (g2 := gd) (v0 := .bool false) (v1 := .slice rd Ld kd) Sd0 (fun b o e => by have := Fd.out b o e; omega))
  have xd1 := xd.set false rd Ld kd
  have xn1 := boxFar (v0 := .bool false) (v1 := .slice rd Ld kd) xn (show gn ≠ gd by omega)
  have xr1 := rboxFar1 (v0 := .bool false) (v1 := .slice rd Ld kd) HX5.out (show g + 1 + 1 ≠ gd by omega)
  have vd : w.heap.size ≤ gd := by omega
  have HB3 := hid ((HB2.out.setCell (p := ⟨gd, 0, none⟩) vd (.bool false)).setCell (p := ⟨gd, 1, none⟩) vd (.slice rd Ld kd))
  have j0 := xd.at0
  have j1 := xd.at1
  have j2 := xd.frozen 0
  have j3 := xd.frozen 1
  have n0 := xn1.at0
  have n1 := xn1.at1
  have e1' := xd1.at1
  obtain ⟨w3, hw3⟩ : ∃ w3, (wD.setCell ⟨gd, 0, none⟩ (.bool false)).setCell ⟨gd, 1, none⟩ (.slice rd Ld kd) = w3 := ⟨_, rfl⟩
  rw [hw3] at Sn3 Sd3 xr1 HB3 n0 n1 e1'
  have Sn := Sn3
  have Sd := Sd3
  have HB := HB3
  have HX3 := hid xr1
  have HW3 := hid hw3
  clear e0 e1 k0 k1 k2 k3
  have e1 := e1'
  clear C7 Sd0 Fd0 NG2 xn xd xn1 xd1 xr1 Sn1 Sq1 Sn2 Sn3 Sd3 HB1 HB2 HB3 HX4 HX5 HXn3 HXd3 hwC e1' hgdl2
  go_wp2_with fail
  try rw [HW3.out]
  refine (GC.out w3 rn kn rd kd Sn.out Sd.out).mono ?_
  rintro e w4 ⟨rg, kg, rfl, C6, Sg0⟩
  replace HX3 := hid (HX3.out.below C6)
  replace HB := hid (HB.out.trans (C6.mono HB.out.size))
  replace Sn := hid (Sn.out.below C6)
  replace n0 := cell_below n0 C6
  replace n1 := cell_below n1 C6
  replace Sd := hid (Sd.out.below C6)
  replace e1 := cell_below e1 C6
  have Sg := hid Sg0
  clear C6 Sg0 GC
  go_wp2_with fail
  refine (DX.out w4 rn kn rg kg Sn.out Sg.out).mono ?_
  rintro e w5 ⟨rx, kx, r2, L2, c2, rfl, C7, Sx0, Fx0⟩
  replace HX3 := hid (HX3.out.below C7)
  replace HB := hid (HB.out.trans (C7.mono HB.out.size))
  replace Sn := hid (Sn.out.below C7)
  replace n0 := cell_below n0 C7
  replace n1 := cell_below n1 C7
  replace Sd := hid (Sd.out.below C7)
  replace e1 := cell_below e1 C7
  replace Sg := hid (Sg.out.below C7)
  have Sx := hid Sx0
  clear C7 Sx0 Fx0 DX
  have HXo := HX3
  go_wp2_with fail
  refine (DY.out w5 rd kd rg kg Sd.out Sg.out).mono ?_
  rintro e w6 ⟨ry, ky, r3, L3, c3, rfl, C8, Sy0, Fy0⟩
  have hB5 := HB.out.size
  replace HX3 := hid (HX3.out.below C8)
  replace HB := hid (HB.out.trans (C8.mono HB.out.size))
  replace Sn := hid (Sn.out.below C8)
  replace n0 := cell_below n0 C8
  replace n1 := cell_below n1 C8
  replace Sd := hid (Sd.out.below C8)
  replace e1 := cell_below e1 C8
  replace Sg := hid (Sg.out.below C8)
  replace Sx := hid (Sx.out.below C8)
  have Sy := hid Sy0
  have Fy := hid (fun b o (e : ry = some ⟨b, o, none⟩) => Nat.lt_of_lt_of_le HXo.out.lt (Fy0 b o e))
  clear C8 Sy0 Fy0 DY
  have HXq := HX3
  go_wp2_with fail
  refine (N3.out w6 rx kx Sx.out).mono ?_
  rintro e w7 ⟨bz, Lz, Dz, rz, kz, rfl, C9, Sz0, M9, l9, Fz0⟩
  replace HX3 := hid (HX3.out.below C9)
  replace HB := hid (HB.out.trans (C9.mono HB.out.size))
  replace Sn := hid (Sn.out.below C9)
  replace n0 := cell_below n0 C9
  replace n1 := cell_below n1 C9
  replace Sd := hid (Sd.out.below C9)
  replace e1 := cell_below e1 C9
  replace Sg := hid (Sg.out.below C9)
  replace Sx := hid (Sx.out.below C9)
  replace Sy := hid (Sy.out.below C9)
  have Sz := hid Sz0
  have Fz := hid (fun b o (e : rz = some ⟨b, o, none⟩) => Nat.lt_of_lt_of_le HXq.out.lt (Fz0 b o e))
  have M := hid M9
  have x3 := HX3.out
  have k0 := x3.at0
  have k1 := x3.at1
  have k2 := x3.at2
  have k3 := x3.at3
  have k4 := x3.frozen 0
  have k5 := x3.frozen 1
  have k6 := x3.frozen 2
  have k7 := x3.frozen 3
  clear C9 Sz0 M9 Fz0 N3 HXq
  go_wp2
  have hc := x3.set bz rz Lz kz false ry Ly ky
  have hc0 := hc.at0
  have hc1 := hc.at1
  have hc2 := hc.at2
  have hc3 := hc.at3
  refine bodyPost_ret (by simp [results, Tryz.results26, go_sem, hc0, hc1, hc2, hc3]; try rfl) rfl ?_
  exact ⟨bz, Lz, Dz, rz, kz, Ly, ry, ky, rfl, below_set4 HB.out (by omega), sl_set4 Sz.out (fun b o e => by have := Fz.out b o e; omega), sl_set4 Sy.out (fun b o e => by have := Fy.out b o e; omega), M.out, l9, ly2, fun b o e => by have := Fz.out b o e; omega, fun b o e => by have := Fy.out b o e; omega⟩
end Go.Proofs.YteamecapeghnoaaGreatDoor
