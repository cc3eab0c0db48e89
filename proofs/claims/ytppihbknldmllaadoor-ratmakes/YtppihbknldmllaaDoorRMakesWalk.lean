/-
  RatMakes' walk: it returns true and writes nothing that was there.
-/
import Derived.Test.YtppihbknldmllaaDoorRatMake
import Derived.Test.YtppihbknldmllaaDoorROf
import Derived.Test.YtppihbknldmllaaDoorSetH
import Derived.Deep.RegionHeld3
namespace Go.Proofs.YtppihbknldmllaaDoor
open Go.RowKit Nt
set_option linter.unusedSimpArgs false
set_option linter.unusedVariables false
set_option maxRecDepth 20000

/-- What the last statement's loads read, and that nothing older has turned. -/
abbrev SM (W : World) (g ga : Nat) (s t : Bool) (p q : Option Addr) (n c m d : Nat) (b1 : Bool) (r1 : Option Addr) (L1 k1 : Nat) (r2 : Option Addr) (L2 k2 : Nat) (w' : World) : Prop :=
  w'.cell? ⟨g, 0, none⟩ = some (.bool s) ∧ w'.cell? ⟨g, 1, none⟩ = some (.slice p n c) ∧ w'.cell? ⟨g + 1, 0, none⟩ = some (.bool t) ∧ w'.cell? ⟨g + 1, 1, none⟩ = some (.slice q m d) ∧
  w'.cell? ⟨ga, 0, none⟩ = some (.bool b1) ∧ w'.cell? ⟨ga, 1, none⟩ = some (.slice r1 L1 k1) ∧ w'.cell? ⟨ga, 2, none⟩ = some (.bool false) ∧ w'.cell? ⟨ga, 3, none⟩ = some (.slice r2 L2 k2) ∧ Hid (Below W.heap.size W w')
theorem SM.keep {W : World} {g ga : Nat} {s t : Bool} {p q : Option Addr} {n c m d : Nat} {b1 : Bool} {r1 : Option Addr} {L1 k1 : Nat} {r2 : Option Addr} {L2 k2 : Nat} {w' w'' : World} (h : SM W g ga s t p q n c m d b1 r1 L1 k1 r2 L2 k2 w') (hb : Below w'.heap.size w' w'') : SM W g ga s t p q n c m d b1 r1 L1 k1 r2 L2 k2 w'' := by
  obtain ⟨h0, h1, h2, h3, h4, h5, h6, h7, h8⟩ := h
  exact ⟨cell_below h0 hb, cell_below h1 hb, cell_below h2 hb, cell_below h3 hb, cell_below h4 hb, cell_below h5 hb, cell_below h6 hb, cell_below h7 hb, h8.out.trans (hb.mono h8.out.size)⟩
theorem SM.bel {W : World} {g ga : Nat} {s t : Bool} {p q : Option Addr} {n c m d : Nat} {b1 : Bool} {r1 : Option Addr} {L1 k1 : Nat} {r2 : Option Addr} {L2 k2 : Nat} {w' : World} (h : SM W g ga s t p q n c m d b1 r1 L1 k1 r2 L2 k2 w') : Below W.heap.size W w' := h.2.2.2.2.2.2.2.2.out

theorem enterL (w : World) (s : Bool) (p : Option Addr) (n c : Nat) (t : Bool) (q : Option Addr) (m d : Nat) :
    ∃ W g, w.heap.size = g ∧ (w.alloc (.cells #[.bool s, .slice p n c] 24)).alloc (.cells #[.bool t, .slice q m d] 24) = W ∧ Hid (Box W g s p n c) ∧ Hid (Box W (g + 1) t q m d) ∧ Hid (Below w.heap.size w W) := by
  have B1 := below_alloc w (.cells #[.bool s, .slice p n c] 24)
  have B2 := below_alloc (w.alloc (.cells #[.bool s, .slice p n c] 24)) (.cells #[.bool t, .slice q m d] 24)
  have X1 := (box_alloc w s p n c).below B2
  have X2 := box_alloc (w.alloc (.cells #[.bool s, .slice p n c] 24)) t q m d
  rw [show (w.alloc (.cells #[.bool s, .slice p n c] 24)).heap.size = w.heap.size + 1 from by simp] at X2
  exact ⟨_, _, rfl, rfl, X1, X2, B1.trans (B2.mono B1.size)⟩

set_option maxHeartbeats 8000000 in
theorem makes_zero (w : World) (s t : Bool) (p q : Option Addr) (n c m d : Nat) (ys : List Nat) (h' : Sl w q m d ys) (hy : val ys = 0) (hm : m ≤ 35184372087808) :
    Calls Tryd.prog 3 #[.agg #[.bool s, .slice p n c], .agg #[.bool t, .slice q m d]] w fun e w' => e = .returned (.bool true) ∧ Below w.heap.size w w' := by
  obtain ⟨W, g, hg, hW, X1, X2, HB⟩ := enterL w s p n c t q m d
  have MK := hid (ratmake_zero W s t p q n c m d ys (h'.below HB.out) hy (by omega))
  have SG : Hid (∀ W', Below w.heap.size w W' → Calls Tryd.prog 5 #[.agg #[.bool t, .slice q m d]] W' fun e w' => e = .returned (.int .i64 0) ∧ Below W'.heap.size W' w') := by
    intro W' hb
    have := zrsign_c W' t q m d ys (h'.below hb) (by omega)
    rwa [show (sg t (val ys)).sign = 0 from by rw [hy]; unfold sg; simp] at this
  have AW := hid rawake_c
  have a0 := X1.out.at0
  have a1 := X1.out.at1
  have b0 := X2.out.at0
  have b1 := X2.out.at1
  clear h' hy
  go_enter Tryd.func3, Tryd.ntmps3
  go_wp2_with fail
  refine MK.out.mono ?_
  rintro e w1 ⟨rfl, C1⟩
  have F1 := hid (HB.out.trans (C1.mono HB.out.size))
  have C2 := below_alloc w1 (.cells #[.bool false, .slice none 0 0, .bool false, .slice none 0 0] 26)
  have HXr := hid (rbox_alloc w1 false none 0 0 false none 0 0)
  replace b0 := cell_below (cell_below b0 C1) C2
  replace b1 := cell_below (cell_below b1 C1) C2
  have F2 := hid (F1.out.trans (C2.mono F1.out.size))
  clear a0 a1 C1 C2 MK X1 X2 hW
  go_wp2_with fail
  refine (SG.out _ F2.out).mono ?_
  rintro e w2 ⟨rfl, C3⟩
  have F3 := hid (F2.out.trans (C3.mono F2.out.size))
  have x := HXr.out.below C3
  have k0 := x.at0
  have k1 := x.at1
  have k2 := x.at2
  have k3 := x.at3
  clear b0 b1 C3 SG HXr x
  go_wp2_with fail
  refine (rsame_c w2 false false none none none none 0 0 0 0 0 0 0 0 [] [] (Sl.none _) (Sl.none _) (Sl.none _) (Sl.none _)).mono ?_
  rintro e w3 ⟨rfl, C4⟩
  have F4 := hid (F3.out.trans (C4.mono F3.out.size))
  clear C4 k0 k1 k2 k3
  go_wp2_with fail
  refine (AW.out w3).mono ?_
  rintro e w4 ⟨rfl, C5⟩
  have F5 := hid (F4.out.trans (C5.mono F4.out.size))
  clear C5
  go_wp2
  go_ret
  exact ⟨rfl, F5.out⟩

set_option maxHeartbeats 16000000 in
theorem makes_ok (w : World) (s t : Bool) (p q : Option Addr) (n c m d : Nat) (xs ys : List Nat) (A : Int) (B : Nat) (h : Sl w p n c xs) (h' : Sl w q m d ys) (hy : val ys ≠ 0) (hn : n ≤ 35184372087808) (hm : m ≤ 35184372087808)
    (MK0 : ∀ W : World, Sl W p n c xs → Sl W q m d ys → Calls Tryd.prog 4 #[.agg #[.bool s, .slice p n c], .agg #[.bool t, .slice q m d]] W (RtE W A B n m))
    (RM0 : ∀ W : World, Sl W p n c xs → Sl W q m d ys → Calls Tryd.prog 8 #[.agg #[.bool s, .slice p n c], .agg #[.bool t, .slice q m d]] W (Rt W A B n m)) :
    Calls Tryd.prog 3 #[.agg #[.bool s, .slice p n c], .agg #[.bool t, .slice q m d]] w fun e w' => e = .returned (.bool true) ∧ Below w.heap.size w w' := by
  obtain ⟨W, g, hg, hW, X1, X2, HB⟩ := enterL w s p n c t q m d
  have MK := hid (MK0 W (h.below HB.out) (h'.below HB.out))
  have RM := hid (fun (W' : World) (hb : Below w.heap.size w W') => RM0 W' (h.below hb) (h'.below hb))
  have RO := hid (fun (W' : World) (hb : Below w.heap.size w W') => ratof_c W' s p n c xs (h.below hb) (by omega))
  have RF := hid (fun (W' : World) (hb : Below w.heap.size w W') => rof_c W' s p n c xs (h.below hb) (by omega))
  have SG := hid (fun (W' : World) (hb : Below w.heap.size w W') => zrsign_c W' t q m d ys (h'.below hb) (by omega))
  have AW := hid rawake_c
  obtain ⟨sn, hsn⟩ : ∃ z, (sg t (val ys)).sign = z := ⟨_, rfl⟩
  have hs0 : sn ≠ 0 := by
    rw [← hsn]
    intro e
    have := Int.sign_eq_zero_iff_zero.1 e
    unfold sg at this
    split at this <;> omega
  have hsz : (sn == 0) = false := beq_eq_false_iff_ne.2 hs0
  rw [hsn] at SG
  have hsr : -1 ≤ sn ∧ sn ≤ 1 := by
    rw [← hsn]
    rcases Int.sign_trichotomy (sg t (val ys)) with e | e | e <;> omega
  have a0 := X1.out.at0
  have a1 := X1.out.at1
  have b0 := X2.out.at0
  have b1 := X2.out.at1
  clear h h' hy hsn MK0 RM0
  go_enter Tryd.func3, Tryd.ntmps3
  go_wp2_with fail
  refine MK.out.mono ?_
  rintro e w1 ⟨bz, L1, D1, r1, k1, L2, r2, k2, rfl, C1, S1, S2, N1, l1, l2⟩
  have F1 := hid (HB.out.trans (C1.mono HB.out.size))
  have C2 := below_alloc w1 (.cells #[.bool bz, .slice r1 L1 k1, .bool false, .slice r2 L2 k2] 26)
  have Xr := rbox_alloc w1 bz r1 L1 k1 false r2 L2 k2
  obtain ⟨W1, hW1⟩ : ∃ W1, w1.alloc (.cells #[.bool bz, .slice r1 L1 k1, .bool false, .slice r2 L2 k2] 26) = W1 := ⟨_, rfl⟩
  rw [hW1] at C2 Xr
  obtain ⟨ga, hga⟩ : ∃ ga, w1.heap.size = ga := ⟨_, rfl⟩
  rw [hga] at Xr
  have C12 := C1.trans (C2.mono C1.size)
  have F2 := hid (F1.out.trans (C2.mono F1.out.size))
  have HX1 := hid (X1.out.below C12)
  have HX2 := hid (X2.out.below C12)
  have HXr := hid Xr
  have T1 := hid (S1.below C2)
  have T2 := hid (S2.below C2)
  have HN := hid N1
  clear b0 b1
  have b0 := HX2.out.at0
  have b1 := HX2.out.at1
  clear a0 a1 C1 C2 C12 Xr MK X1 X2 hW S1 S2 N1
  go_wp2_with fail
  refine (SG.out W1 F2.out).mono ?_
  rintro e w2 ⟨rfl, C3⟩
  have F3 := hid (F2.out.trans (C3.mono F2.out.size))
  have x1 := HX1.out.below C3
  have x2 := HX2.out.below C3
  have x := HXr.out.below C3
  have T1' := hid (T1.out.below C3)
  have T2' := hid (T2.out.below C3)
  clear b0 b1
  have a0 := x1.at0
  have a1 := x1.at1
  have b0 := x2.at0
  have b1 := x2.at1
  have c0 := x.at0
  have c1 := x.at1
  have c2 := x.at2
  have c3 := x.at3
  have S0 : Hid (SM w2 g ga s t p q n c m d bz r1 L1 k1 r2 L2 k2 w2.drew) := ⟨a0, a1, b0, b1, c0, c1, c2, c3, (Below.refl w2.heap.size w2).drew⟩
  have SA : Hid (∀ (W' : World), Below w2.heap.size w2 W' → ∀ (q1 q2 : Option Addr) (M1 j1 M2 j2 : Nat) (bm : Bool) (E1 : List Nat), Sl W' q1 M1 j1 E1 → Sl W' q2 M2 j2 (digs B) → Nm bm M1 E1 A → Calls Tryd.prog 6 #[.agg #[.bool bz, .slice r1 L1 k1, .bool false, .slice r2 L2 k2], .agg #[.bool bm, .slice q1 M1 j1, .bool false, .slice q2 M2 j2]] W' fun e w' => e = .returned (.bool true) ∧ Below W'.heap.size W' w') := by
    intro W' hb q1 q2 M1 j1 M2 j2 bm E1 u1 u2 v1
    obtain ⟨rfl, rfl⟩ := Nm.same HN.out v1 rfl
    exact rsame_c W' _ false r1 q1 r2 q2 L1 k1 M1 j1 L2 k2 M2 j2 _ (digs B) (T1'.out.below hb) u1 (T2'.out.below hb) u2
  have SB : Hid (∀ (W' : World) (f1 f2 g1 g2 : Option Addr) (G1 i1 G2 i2 J1 h1 J2 h2 : Nat) (bf bg : Bool) (H1 I1 : List Nat), Sl W' f1 G1 i1 H1 → Sl W' f2 G2 i2 (digs 1) → Sl W' g1 J1 h1 I1 → Sl W' g2 J2 h2 (digs 1) → Nm bf G1 H1 (sg s (val xs)) → Nm bg J1 I1 (sg s (val xs)) → Calls Tryd.prog 6 #[.agg #[.bool bf, .slice f1 G1 i1, .bool false, .slice f2 G2 i2], .agg #[.bool bg, .slice g1 J1 h1, .bool false, .slice g2 J2 h2]] W' fun e w' => e = .returned (.bool true) ∧ Below W'.heap.size W' w') := by
    intro W' f1 f2 g1 g2 G1 i1 G2 i2 J1 h1 J2 h2 bf bg H1 I1 o1 o2 t1 t2 o3 t3
    obtain ⟨rfl, rfl⟩ := Nm.same o3 t3 rfl
    exact rsame_c W' _ false f1 g1 f2 g2 G1 i1 J1 h1 G2 i2 J2 h2 _ (digs 1) o1 t1 o2 t2
  clear C3 SG HX1 HX2 HXr T1 T2 hW1 x1 x2 x F1 F2 T1' T2' HN
  go_wp2_with fail
  go_region_held3 (fun w' => w'.cell? ⟨g, 0, none⟩ = some (.bool s) ∧ w'.cell? ⟨g, 1, none⟩ = some (.slice p n c) ∧ w'.cell? ⟨g + 1, 0, none⟩ = some (.bool t) ∧ w'.cell? ⟨g + 1, 1, none⟩ = some (.slice q m d) ∧ w'.cell? ⟨ga, 0, none⟩ = some (.bool bz) ∧ w'.cell? ⟨ga, 1, none⟩ = some (.slice r1 L1 k1) ∧ w'.cell? ⟨ga, 2, none⟩ = some (.bool false) ∧ w'.cell? ⟨ga, 3, none⟩ = some (.slice r2 L2 k2) ∧ Hid (Below w2.heap.size w2 w'))
    (first | (with_reducible exact SM.keep (W := w2) (g := g) (ga := ga) (s := s) (t := t) (p := p) (q := q) (n := n) (c := c) (m := m) (d := d) (b1 := bz) (r1 := r1) (L1 := L1) (k1 := k1) (r2 := r2) (L2 := L2) (k2 := k2) (by assumption) hBz) | exact S0.out | fail)
    (first
      | (go_at_call 8; refine (RM.out _ (F3.out.trans ((SM.bel (W := w2) (g := g) (ga := ga) (s := s) (t := t) (p := p) (q := q) (n := n) (c := c) (m := m) (d := d) (b1 := bz) (r1 := r1) (L1 := L1) (k1 := k1) (r2 := r2) (L2 := L2) (k2 := k2) (by with_reducible assumption)).mono F3.out.size))).mono ?_; rintro e wm ⟨bm, M1, E1, q1, j1, M2, q2, j2, rfl, hBz, u1, u2, v1, y1, y2, z1, z2⟩; have HBm := hid ((SM.bel (W := w2) (g := g) (ga := ga) (s := s) (t := t) (p := p) (q := q) (n := n) (c := c) (m := m) (d := d) (b1 := bz) (r1 := r1) (L1 := L1) (k1 := k1) (r2 := r2) (L2 := L2) (k2 := k2) (by with_reducible assumption)).trans (hBz.mono (SM.bel (W := w2) (g := g) (ga := ga) (s := s) (t := t) (p := p) (q := q) (n := n) (c := c) (m := m) (d := d) (b1 := bz) (r1 := r1) (L1 := L1) (k1 := k1) (r2 := r2) (L2 := L2) (k2 := k2) (by with_reducible assumption)).size)); have U1 := u1; have U2 := u2; have V1 := v1; clear u1 u2 v1 z1 z2 y1 y2 RM)
      | (go_at_call_of 6 (Value.agg #[Value.bool bz, Value.slice r1 L1 k1, Value.bool false, Value.slice r2 L2 k2]); refine (SA.out _ HBm.out q1 q2 M1 j1 M2 j2 bm E1 U1.out U2.out V1.out).mono ?_; rintro e ws ⟨rfl, hBz⟩; clear SA HBm U1 U2 V1)
      | (go_at_call 9; refine (RO.out _ (F3.out.trans ((SM.bel (W := w2) (g := g) (ga := ga) (s := s) (t := t) (p := p) (q := q) (n := n) (c := c) (m := m) (d := d) (b1 := bz) (r1 := r1) (L1 := L1) (k1 := k1) (r2 := r2) (L2 := L2) (k2 := k2) (by with_reducible assumption)).mono F3.out.size))).mono ?_; rintro e wf ⟨bf, G1, H1, f1, i1, G2, f2, i2, rfl, hBz, o1, o2, o3, y3, y4, z3, z4⟩; clear y3 y4 z3 z4 RO)
      | (go_at_call 10; refine (RF.out _ (F3.out.trans ((SM.bel (W := w2) (g := g) (ga := ga) (s := s) (t := t) (p := p) (q := q) (n := n) (c := c) (m := m) (d := d) (b1 := bz) (r1 := r1) (L1 := L1) (k1 := k1) (r2 := r2) (L2 := L2) (k2 := k2) (by with_reducible assumption)).mono F3.out.size))).mono ?_; rintro e wg ⟨bg, J1, I1, g1, h1, J2, g2, h2, rfl, hBz, t1, t2, t3, y5, y6, z5, z6⟩; have o1' := hid (o1.out.below hBz); have o2' := hid (o2.out.below hBz); clear y5 y6 z5 z6 RF)
      | (go_at_call 6; refine (SB.out _ f1 f2 g1 g2 G1 i1 G2 i2 J1 h1 J2 h2 bf bg H1 I1 o1'.out o2'.out t1.out t2.out o3.out t3.out).mono ?_; rintro e wv ⟨rfl, hBz⟩; clear SB)
      | (go_at_call 7; refine (AW.out _).mono ?_; rintro e wz ⟨rfl, hBz⟩; have HBZ := hid ((SM.bel (W := w2) (g := g) (ga := ga) (s := s) (t := t) (p := p) (q := q) (n := n) (c := c) (m := m) (d := d) (b1 := bz) (r1 := r1) (L1 := L1) (k1 := k1) (r2 := r2) (L2 := L2) (k2 := k2) (by with_reducible assumption)).trans (hBz.mono (SM.bel (W := w2) (g := g) (ga := ga) (s := s) (t := t) (p := p) (q := q) (n := n) (c := c) (m := m) (d := d) (b1 := bz) (r1 := r1) (L1 := L1) (k1 := k1) (r2 := r2) (L2 := L2) (k2 := k2) (by with_reducible assumption)).size)); clear AW)
      | fail)
  all_goals go_wp2
  all_goals go_ret
  all_goals exact ⟨rfl, F3.out.trans (HBZ.out.mono F3.out.size)⟩

theorem makes_walk (w : World) (s : Bool) (p : Option Addr) (n c : Nat) (xs : List Nat) (t : Bool) (q : Option Addr) (m d : Nat) (ys : List Nat) (h : Sl w p n c xs) (h' : Sl w q m d ys) (b0 : c ≤ 35184372087808) (b1 : d ≤ 35184372087808) :
    Calls Tryd.prog 3 #[.agg #[.bool s, .slice p n c], .agg #[.bool t, .slice q m d]] w fun e w' => e = .returned (.bool true) ∧ Below w.heap.size w w' := by
  have hn : n ≤ 35184372087808 := Nat.le_trans h.cap b0
  have hm : m ≤ 35184372087808 := Nat.le_trans h'.cap b1
  by_cases hy : val ys = 0
  · exact makes_zero w s t p q n c m d ys h' hy hm
  · cases t with
    | false => exact makes_ok w s false p q n c m d xs ys _ _ h h' hy hn hm (fun W h1 h2 => ratmake_pos W s p q n c m d xs ys h1 h2 hy (by omega) (by omega)) (fun W h1 h2 => rmake_c W s p q n c m d xs ys h1 h2 hy (by omega) (by omega))
    | true => exact makes_ok w s true p q n c m d xs ys _ _ h h' hy hn hm (fun W h1 h2 => ratmake_neg W s p q n c m d xs ys h1 h2 hy (by omega) (by omega)) (fun W h1 h2 => rmake_neg W s p q n c m d xs ys h1 h2 hy (by omega) (by omega))
end Go.Proofs.YtppihbknldmllaaDoor
