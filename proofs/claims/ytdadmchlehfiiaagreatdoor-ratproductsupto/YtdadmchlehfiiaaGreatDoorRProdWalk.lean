/-
  RatProducts' walk: it returns true and writes nothing that was there.
-/
import Derived.Test.YtdadmchlehfiiaaGreatDoorSetM
import Derived.Test.YtdadmchlehfiiaaGreatDoorSetN
import Derived.Test.YtdadmchlehfiiaaGreatDoorROf
import Derived.Test.YtdadmchlehfiiaaGreatDoorROrdWalk
import Derived.Deep.RegionHeld3
namespace Go.Proofs.YtdadmchlehfiiaaGreatDoor
open Go.RowKit Nt
set_option linter.unusedSimpArgs false
set_option linter.unusedVariables false
set_option maxRecDepth 20000

/-- What a comparison's loads read, and that nothing older has turned. -/
abbrev SP (W : World) (g ga : Nat) (s1 : Bool) (p1 : Option Addr) (n1 c1 : Nat) (q1 : Option Addr) (m1 d1 : Nat) (s2 : Bool) (p2 : Option Addr) (n2 c2 : Nat) (q2 : Option Addr) (m2 d2 : Nat) (bz : Bool) (r1 : Option Addr) (L1 k1 : Nat) (r2 : Option Addr) (L2 k2 : Nat) (w' : World) : Prop :=
  w'.cell? ⟨g, 0, none⟩ = some (.bool s1) ∧ w'.cell? ⟨g, 1, none⟩ = some (.slice p1 n1 c1) ∧ w'.cell? ⟨g, 2, none⟩ = some (.bool false) ∧ w'.cell? ⟨g, 3, none⟩ = some (.slice q1 m1 d1) ∧ w'.cell? ⟨g + 1, 0, none⟩ = some (.bool s2) ∧ w'.cell? ⟨g + 1, 1, none⟩ = some (.slice p2 n2 c2) ∧ w'.cell? ⟨g + 1, 2, none⟩ = some (.bool false) ∧ w'.cell? ⟨g + 1, 3, none⟩ = some (.slice q2 m2 d2) ∧ w'.cell? ⟨ga, 0, none⟩ = some (.bool bz) ∧ w'.cell? ⟨ga, 1, none⟩ = some (.slice r1 L1 k1) ∧ w'.cell? ⟨ga, 2, none⟩ = some (.bool false) ∧ w'.cell? ⟨ga, 3, none⟩ = some (.slice r2 L2 k2) ∧ Hid (Below W.heap.size W w')
theorem SP.keep {W : World} {g ga : Nat} {s1 : Bool} {p1 : Option Addr} {n1 c1 : Nat} {q1 : Option Addr} {m1 d1 : Nat} {s2 : Bool} {p2 : Option Addr} {n2 c2 : Nat} {q2 : Option Addr} {m2 d2 : Nat} {bz : Bool} {r1 : Option Addr} {L1 k1 : Nat} {r2 : Option Addr} {L2 k2 : Nat} {w' w'' : World} (h : SP W g ga s1 p1 n1 c1 q1 m1 d1 s2 p2 n2 c2 q2 m2 d2 bz r1 L1 k1 r2 L2 k2 w') (hb : Below w'.heap.size w' w'') : SP W g ga s1 p1 n1 c1 q1 m1 d1 s2 p2 n2 c2 q2 m2 d2 bz r1 L1 k1 r2 L2 k2 w'' := by
  obtain ⟨h0, h1, h2, h3, h4, h5, h6, h7, i0, i1, i2, i3, h8⟩ := h
  exact ⟨cell_below h0 hb, cell_below h1 hb, cell_below h2 hb, cell_below h3 hb, cell_below h4 hb, cell_below h5 hb, cell_below h6 hb, cell_below h7 hb, cell_below i0 hb, cell_below i1 hb, cell_below i2 hb, cell_below i3 hb, h8.out.trans (hb.mono h8.out.size)⟩
theorem SP.bel {W : World} {g ga : Nat} {s1 : Bool} {p1 : Option Addr} {n1 c1 : Nat} {q1 : Option Addr} {m1 d1 : Nat} {s2 : Bool} {p2 : Option Addr} {n2 c2 : Nat} {q2 : Option Addr} {m2 d2 : Nat} {bz : Bool} {r1 : Option Addr} {L1 k1 : Nat} {r2 : Option Addr} {L2 k2 : Nat} {w' : World} (h : SP W g ga s1 p1 n1 c1 q1 m1 d1 s2 p2 n2 c2 q2 m2 d2 bz r1 L1 k1 r2 L2 k2 w') : Below W.heap.size W w' := h.2.2.2.2.2.2.2.2.2.2.2.2.out

theorem enterP (w : World) (s1 : Bool) (p1 : Option Addr) (n1 c1 : Nat) (t1 : Bool) (q1 : Option Addr) (m1 d1 : Nat) (s2 : Bool) (p2 : Option Addr) (n2 c2 : Nat) (t2 : Bool) (q2 : Option Addr) (m2 d2 : Nat) :
    ∃ W g, w.heap.size = g ∧ (w.alloc (.cells #[.bool s1, .slice p1 n1 c1, .bool t1, .slice q1 m1 d1] 26)).alloc (.cells #[.bool s2, .slice p2 n2 c2, .bool t2, .slice q2 m2 d2] 26) = W ∧ Hid (RBox W g s1 p1 n1 c1 t1 q1 m1 d1) ∧ Hid (RBox W (g + 1) s2 p2 n2 c2 t2 q2 m2 d2) ∧ Hid (Below w.heap.size w W) := by
  have B1 := below_alloc w (.cells #[.bool s1, .slice p1 n1 c1, .bool t1, .slice q1 m1 d1] 26)
  have B2 := below_alloc (w.alloc (.cells #[.bool s1, .slice p1 n1 c1, .bool t1, .slice q1 m1 d1] 26)) (.cells #[.bool s2, .slice p2 n2 c2, .bool t2, .slice q2 m2 d2] 26)
  have X1 := (rbox_alloc w s1 p1 n1 c1 t1 q1 m1 d1).below B2
  have X2 := rbox_alloc (w.alloc (.cells #[.bool s1, .slice p1 n1 c1, .bool t1, .slice q1 m1 d1] 26)) s2 p2 n2 c2 t2 q2 m2 d2
  rw [show (w.alloc (.cells #[.bool s1, .slice p1 n1 c1, .bool t1, .slice q1 m1 d1] 26)).heap.size = w.heap.size + 1 from by simp] at X2
  exact ⟨_, _, rfl, rfl, X1, X2, B1.trans (B2.mono B1.size)⟩

set_option maxHeartbeats 8000000 in
theorem products_bad (w : World) (s1 : Bool) (p1 : Option Addr) (n1 c1 : Nat) (t1 : Bool) (q1 : Option Addr) (m1 d1 : Nat) (s2 : Bool) (p2 : Option Addr) (n2 c2 : Nat) (t2 : Bool) (q2 : Option Addr) (m2 d2 : Nat) (ys1 ys2 : List Nat)
    (h1 : Sl w q1 m1 d1 ys1) (h2 : Sl w q2 m2 d2 ys2) (hs : m1 ≤ 8388608) (hs' : m2 ≤ 8388608) (hk : false = (decide (0 < (sg t1 (val ys1)).sign) && decide (0 < (sg t2 (val ys2)).sign))) :
    Calls Tryz.prog 3 #[.agg #[.bool s1, .slice p1 n1 c1, .bool t1, .slice q1 m1 d1], .agg #[.bool s2, .slice p2 n2 c2, .bool t2, .slice q2 m2 d2]] w fun e w' => e = .returned (.bool true) ∧ Below w.heap.size w w' := by
  obtain ⟨W, g, hg, hW, X1, X2, HB⟩ := enterP w s1 p1 n1 c1 t1 q1 m1 d1 s2 p2 n2 c2 t2 q2 m2 d2
  have MU := hid (ratmul_bad W s1 p1 n1 c1 t1 q1 m1 d1 s2 p2 n2 c2 t2 q2 m2 d2 ys1 ys2 (h1.below HB.out) (h2.below HB.out) (by omega) (by omega) hk)
  have DV := hid (fun (W' : World) (hb : Below w.heap.size w W') => ratdiv_bad W' s1 p1 n1 c1 t1 q1 m1 d1 s2 p2 n2 c2 t2 q2 m2 d2 ys1 ys2 (h1.below hb) (h2.below hb) (by omega) (by omega) hk)
  have BO := fun (W' : World) (hb : Below w.heap.size w W') => both_c W' s1 p1 n1 c1 t1 q1 m1 d1 s2 p2 n2 c2 t2 q2 m2 d2 ys1 ys2 (h1.below hb) (h2.below hb) (by omega) (by omega) _ _ rfl rfl
  rw [← hk] at BO
  replace BO := hid BO
  have AW := hid rawake_c
  have a0 := X1.out.at0
  have a1 := X1.out.at1
  have a2 := X1.out.at2
  have a3 := X1.out.at3
  have e0 := X2.out.at0
  have e1 := X2.out.at1
  have e2 := X2.out.at2
  have e3 := X2.out.at3
  clear h1 h2 hk
  go_enter Tryz.func3, Tryz.ntmps3
  go_wp2_with fail
  refine MU.out.mono ?_
  rintro e w1 ⟨rfl, C1⟩
  have C2 := below_alloc w1 (.cells #[.bool false, .slice none 0 0, .bool false, .slice none 0 0] 26)
  have XP := hid (rbox_alloc w1 false none 0 0 false none 0 0)
  replace X1 := hid (X1.out.below C1)
  replace X2 := hid (X2.out.below C1)
  replace X1 := hid (X1.out.below C2)
  replace X2 := hid (X2.out.below C2)
  have F1 := hid (HB.out.trans ((C1.trans (C2.mono C1.size)).mono HB.out.size))
  clear a0 a1 a2 a3 e0 e1 e2 e3 C1 C2 MU hW
  have a0 := X1.out.at0
  have a1 := X1.out.at1
  have a2 := X1.out.at2
  have a3 := X1.out.at3
  have e0 := X2.out.at0
  have e1 := X2.out.at1
  have e2 := X2.out.at2
  have e3 := X2.out.at3
  go_wp2_with fail
  refine (DV.out _ F1.out).mono ?_
  rintro e w2 ⟨rfl, C1⟩
  have C2 := below_alloc w2 (.cells #[.bool false, .slice none 0 0, .bool false, .slice none 0 0] 26)
  have XQ := hid (rbox_alloc w2 false none 0 0 false none 0 0)
  replace X1 := hid (X1.out.below C1)
  replace X2 := hid (X2.out.below C1)
  replace XP := hid (XP.out.below C1)
  replace X1 := hid (X1.out.below C2)
  replace X2 := hid (X2.out.below C2)
  replace XP := hid (XP.out.below C2)
  have F2 := hid (F1.out.trans ((C1.trans (C2.mono C1.size)).mono F1.out.size))
  clear a0 a1 a2 a3 e0 e1 e2 e3 C1 C2 DV
  have a0 := X1.out.at0
  have a1 := X1.out.at1
  have a2 := X1.out.at2
  have a3 := X1.out.at3
  have e0 := X2.out.at0
  have e1 := X2.out.at1
  have e2 := X2.out.at2
  have e3 := X2.out.at3
  go_wp2_with fail
  refine (BO.out _ F2.out).mono ?_
  rintro e w3 ⟨rfl, C1⟩
  replace XP := hid (XP.out.below C1)
  replace XQ := hid (XQ.out.below C1)
  have F3 := hid (F2.out.trans (C1.mono F2.out.size))
  clear a0 a1 a2 a3 e0 e1 e2 e3 C1 BO F1 F2
  have f0 := XP.out.at0
  have f1 := XP.out.at1
  have f2 := XP.out.at2
  have f3 := XP.out.at3
  go_wp2_with fail
  refine (rsame_c w3 false false none none none none 0 0 0 0 0 0 0 0 [] [] (Sl.none _) (Sl.none _) (Sl.none _) (Sl.none _)).mono ?_
  rintro e w4 ⟨rfl, C1⟩
  replace XQ := hid (XQ.out.below C1)
  have F4 := hid (F3.out.trans (C1.mono F3.out.size))
  clear f0 f1 f2 f3 C1 F3
  have f0 := XQ.out.at0
  have f1 := XQ.out.at1
  have f2 := XQ.out.at2
  have f3 := XQ.out.at3
  go_wp2_with fail
  refine (rsame_c w4 false false none none none none 0 0 0 0 0 0 0 0 [] [] (Sl.none _) (Sl.none _) (Sl.none _) (Sl.none _)).mono ?_
  rintro e w5 ⟨rfl, C1⟩
  have F5 := hid (F4.out.trans (C1.mono F4.out.size))
  clear f0 f1 f2 f3 C1 F4
  go_wp2_with fail
  refine (AW.out w5).mono ?_
  rintro e w6 ⟨rfl, C1⟩
  have F6 := hid (F5.out.trans (C1.mono F5.out.size))
  clear C1
  go_wp2
  go_ret
  exact ⟨rfl, F6.out⟩

set_option maxHeartbeats 16000000 in
theorem products_zero (w : World) (s1 : Bool) (p1 : Option Addr) (n1 c1 : Nat) (xs1 : List Nat) (q1 : Option Addr) (m1 d1 : Nat) (ys1 : List Nat) (s2 : Bool) (p2 : Option Addr) (n2 c2 : Nat) (xs2 : List Nat) (q2 : Option Addr) (m2 d2 : Nat) (ys2 : List Nat)
    (h1 : Sl w p1 n1 c1 xs1) (g1 : Sl w q1 m1 d1 ys1) (h2 : Sl w p2 n2 c2 xs2) (g2 : Sl w q2 m2 d2 ys2) (y1 : val ys1 ≠ 0) (y2 : val ys2 ≠ 0) (x2 : val xs2 = 0) (b1 : n1 ≤ 8388608) (b2 : m1 ≤ 8388608) (b3 : n2 ≤ 8388608) (b4 : m2 ≤ 8388608) :
    Calls Tryz.prog 3 #[.agg #[.bool s1, .slice p1 n1 c1, .bool false, .slice q1 m1 d1], .agg #[.bool s2, .slice p2 n2 c2, .bool false, .slice q2 m2 d2]] w fun e w' => e = .returned (.bool true) ∧ Below w.heap.size w w' := by
  obtain ⟨W, g, hg, hW, X1, X2, HB⟩ := enterP w s1 p1 n1 c1 false q1 m1 d1 s2 p2 n2 c2 false q2 m2 d2
  have MU := hid (ratmul_ok W s1 p1 n1 c1 xs1 q1 m1 d1 ys1 s2 p2 n2 c2 xs2 q2 m2 d2 ys2 (h1.below HB.out) (g1.below HB.out) (h2.below HB.out) (g2.below HB.out) y1 y2 b1 b2 b3 b4)
  have DV := hid (fun (W' : World) (hb : Below w.heap.size w W') => ratdiv_zero W' s1 p1 n1 c1 xs1 q1 m1 d1 ys1 s2 p2 n2 c2 xs2 q2 m2 d2 ys2 (h1.below hb) (g1.below hb) (h2.below hb) (g2.below hb) y1 y2 x2 b1 b2 b3 b4)
  have RMU := hid (fun (W' : World) (hb : Below w.heap.size w W') => rrmul_c W' s1 p1 n1 c1 xs1 q1 m1 d1 ys1 s2 p2 n2 c2 xs2 q2 m2 d2 ys2 (h1.below hb) (g1.below hb) (h2.below hb) (g2.below hb) y1 y2 b1 b2 b3 b4)
  have BO := hid (fun (W' : World) (hb : Below w.heap.size w W') => both_c W' s1 p1 n1 c1 false q1 m1 d1 s2 p2 n2 c2 false q2 m2 d2 ys1 ys2 (g1.below hb) (g2.below hb) (by omega) (by omega) true true (by rw [sign_pos y1]; rfl) (by rw [sign_pos y2]; rfl))
  have SG := hid (fun (W' : World) (hb : Below w.heap.size w W') => zrsign_c W' s2 p2 n2 c2 xs2 (h2.below hb) (by omega))
  have AW := hid rawake_c
  have sz : (sg s2 (val xs2)).sign = 0 := by rw [x2]; unfold sg; simp
  rw [sz] at SG
  clear sz
  generalize dR (sw false (sg s1 (val xs1) * sg s2 (val xs2))) (val ys1 * val ys2) = BM at *
  generalize nR (sw false (sg s1 (val xs1) * sg s2 (val xs2))) (val ys1 * val ys2) = AM at *
  have a0 := X1.out.at0
  have a1 := X1.out.at1
  have a2 := X1.out.at2
  have a3 := X1.out.at3
  have e0 := X2.out.at0
  have e1 := X2.out.at1
  have e2 := X2.out.at2
  have e3 := X2.out.at3
  clear h1 g1 h2 g2 y1 y2 x2
  go_enter Tryz.func3, Tryz.ntmps3
  go_wp2_with fail
  refine MU.out.mono ?_
  rintro e w1 ⟨bz, L1, D1, r1, k1, L2, r2, k2, rfl, C1, S1, S2, N1, l1, l2, -, -⟩
  have T1 := hid S1
  have T2 := hid S2
  have HN := hid N1
  have C2 := below_alloc w1 (.cells #[.bool bz, .slice r1 L1 k1, .bool false, .slice r2 L2 k2] 26)
  have XP := hid (rbox_alloc w1 bz r1 L1 k1 false r2 L2 k2)
  obtain ⟨W1, hW1⟩ : ∃ W, w1.alloc (.cells #[.bool bz, .slice r1 L1 k1, .bool false, .slice r2 L2 k2] 26) = W := ⟨_, rfl⟩
  rw [hW1] at C2 XP
  obtain ⟨gp, hgp⟩ : ∃ g, w1.heap.size = g := ⟨_, rfl⟩
  rw [hgp] at XP
  replace X1 := hid (X1.out.below C1)
  replace X2 := hid (X2.out.below C1)
  replace X1 := hid (X1.out.below C2)
  replace X2 := hid (X2.out.below C2)
  replace T1 := hid (T1.out.below C2)
  replace T2 := hid (T2.out.below C2)
  have F1 := hid (HB.out.trans ((C1.trans (C2.mono C1.size)).mono HB.out.size))
  clear a0 a1 a2 a3 e0 e1 e2 e3 C1 C2 S1 S2 N1 MU hW l1 l2
  have a0 := X1.out.at0
  have a1 := X1.out.at1
  have a2 := X1.out.at2
  have a3 := X1.out.at3
  have e0 := X2.out.at0
  have e1 := X2.out.at1
  have e2 := X2.out.at2
  have e3 := X2.out.at3
  go_wp2_with fail
  refine (DV.out W1 F1.out).mono ?_
  rintro e w2 ⟨rfl, C1⟩
  have C2 := below_alloc w2 (.cells #[.bool false, .slice none 0 0, .bool false, .slice none 0 0] 26)
  have XQ := hid (rbox_alloc w2 false none 0 0 false none 0 0)
  replace X1 := hid (X1.out.below C1)
  replace X2 := hid (X2.out.below C1)
  replace XP := hid (XP.out.below C1)
  replace T1 := hid (T1.out.below C1)
  replace T2 := hid (T2.out.below C1)
  replace X1 := hid (X1.out.below C2)
  replace X2 := hid (X2.out.below C2)
  replace XP := hid (XP.out.below C2)
  replace T1 := hid (T1.out.below C2)
  replace T2 := hid (T2.out.below C2)
  have F2 := hid (F1.out.trans ((C1.trans (C2.mono C1.size)).mono F1.out.size))
  clear a0 a1 a2 a3 e0 e1 e2 e3 C1 C2 DV hW1
  have a0 := X1.out.at0
  have a1 := X1.out.at1
  have a2 := X1.out.at2
  have a3 := X1.out.at3
  have e0 := X2.out.at0
  have e1 := X2.out.at1
  have e2 := X2.out.at2
  have e3 := X2.out.at3
  go_wp2_with fail
  refine (BO.out _ F2.out).mono ?_
  rintro e w3 ⟨rfl, C1⟩
  replace X1 := hid (X1.out.below C1)
  replace X2 := hid (X2.out.below C1)
  replace XP := hid (XP.out.below C1)
  replace XQ := hid (XQ.out.below C1)
  replace T1 := hid (T1.out.below C1)
  replace T2 := hid (T2.out.below C1)
  have F3 := hid (F2.out.trans (C1.mono F2.out.size))
  clear a0 a1 a2 a3 e0 e1 e2 e3 C1 BO F1 F2
  have a0 := X1.out.at0
  have a1 := X1.out.at1
  have a2 := X1.out.at2
  have a3 := X1.out.at3
  have e0 := X2.out.at0
  have e1 := X2.out.at1
  have e2 := X2.out.at2
  have e3 := X2.out.at3
  have f0 := XP.out.at0
  have f1 := XP.out.at1
  have f2 := XP.out.at2
  have f3 := XP.out.at3
  have SA : Hid (∀ (W' : World), Below w3.heap.size w3 W' → ∀ (o1 o2 : Option Addr) (M1 j1 M2 j2 : Nat) (bm : Bool) (E1 : List Nat), Sl W' o1 M1 j1 E1 → Sl W' o2 M2 j2 (digs BM) → Nm bm M1 E1 AM → Calls Tryz.prog 7 #[.agg #[.bool bz, .slice r1 L1 k1, .bool false, .slice r2 L2 k2], .agg #[.bool bm, .slice o1 M1 j1, .bool false, .slice o2 M2 j2]] W' fun e w' => e = .returned (.bool true) ∧ Below W'.heap.size W' w') := by
    intro W' hb o1 o2 M1 j1 M2 j2 bm E1 u1 u2 v1
    obtain ⟨rfl, rfl⟩ := Nm.same HN.out v1 rfl
    exact rsame_c W' _ false r1 o1 r2 o2 L1 k1 M1 j1 L2 k2 M2 j2 _ (digs BM) (T1.out.below hb) u1 (T2.out.below hb) u2
  clear T1 T2 HN
  have S0 : Hid (SP w3 g gp s1 p1 n1 c1 q1 m1 d1 s2 p2 n2 c2 q2 m2 d2 bz r1 L1 k1 r2 L2 k2 w3.drew) := ⟨a0, a1, a2, a3, e0, e1, e2, e3, f0, f1, f2, f3, (Below.refl w3.heap.size w3).drew⟩
  go_wp2_with fail
  go_region_held3 (fun w' => w'.cell? ⟨g, 0, none⟩ = some (.bool s1) ∧ w'.cell? ⟨g, 1, none⟩ = some (.slice p1 n1 c1) ∧ w'.cell? ⟨g, 2, none⟩ = some (.bool false) ∧ w'.cell? ⟨g, 3, none⟩ = some (.slice q1 m1 d1) ∧ w'.cell? ⟨g + 1, 0, none⟩ = some (.bool s2) ∧ w'.cell? ⟨g + 1, 1, none⟩ = some (.slice p2 n2 c2) ∧ w'.cell? ⟨g + 1, 2, none⟩ = some (.bool false) ∧ w'.cell? ⟨g + 1, 3, none⟩ = some (.slice q2 m2 d2) ∧ w'.cell? ⟨gp, 0, none⟩ = some (.bool bz) ∧ w'.cell? ⟨gp, 1, none⟩ = some (.slice r1 L1 k1) ∧ w'.cell? ⟨gp, 2, none⟩ = some (.bool false) ∧ w'.cell? ⟨gp, 3, none⟩ = some (.slice r2 L2 k2) ∧ Hid (Below w3.heap.size w3 w'))
    (first | (with_reducible exact SP.keep (W := w3) (g := g) (ga := gp) (s1 := s1) (p1 := p1) (n1 := n1) (c1 := c1) (q1 := q1) (m1 := m1) (d1 := d1) (s2 := s2) (p2 := p2) (n2 := n2) (c2 := c2) (q2 := q2) (m2 := m2) (d2 := d2) (bz := bz) (r1 := r1) (L1 := L1) (k1 := k1) (r2 := r2) (L2 := L2) (k2 := k2) (by assumption) hBz) | exact S0.out | fail)
    (first
      | (go_at_call 9; refine (RMU.out _ (F3.out.trans ((SP.bel (W := w3) (g := g) (ga := gp) (s1 := s1) (p1 := p1) (n1 := n1) (c1 := c1) (q1 := q1) (m1 := m1) (d1 := d1) (s2 := s2) (p2 := p2) (n2 := n2) (c2 := c2) (q2 := q2) (m2 := m2) (d2 := d2) (bz := bz) (r1 := r1) (L1 := L1) (k1 := k1) (r2 := r2) (L2 := L2) (k2 := k2) (by with_reducible assumption)).mono F3.out.size))).mono ?_; rintro e wm ⟨bm, M1, E1, o1, j1, M2, o2, j2, rfl, hBz, u1, u2, v1, y1, y2, z1, z2⟩; have HBm := hid ((SP.bel (W := w3) (g := g) (ga := gp) (s1 := s1) (p1 := p1) (n1 := n1) (c1 := c1) (q1 := q1) (m1 := m1) (d1 := d1) (s2 := s2) (p2 := p2) (n2 := n2) (c2 := c2) (q2 := q2) (m2 := m2) (d2 := d2) (bz := bz) (r1 := r1) (L1 := L1) (k1 := k1) (r2 := r2) (L2 := L2) (k2 := k2) (by with_reducible assumption)).trans (hBz.mono (SP.bel (W := w3) (g := g) (ga := gp) (s1 := s1) (p1 := p1) (n1 := n1) (c1 := c1) (q1 := q1) (m1 := m1) (d1 := d1) (s2 := s2) (p2 := p2) (n2 := n2) (c2 := c2) (q2 := q2) (m2 := m2) (d2 := d2) (bz := bz) (r1 := r1) (L1 := L1) (k1 := k1) (r2 := r2) (L2 := L2) (k2 := k2) (by with_reducible assumption)).size)); have U1 := u1; have U2 := u2; have V1 := v1; clear u1 u2 v1 z1 z2 y1 y2 RMU)
      | (go_at_call 7; refine (SA.out _ HBm.out o1 o2 M1 j1 M2 j2 bm E1 U1.out U2.out V1.out).mono ?_; rintro e ws ⟨rfl, hBz⟩; have HT := hid (HBm.out.trans (hBz.mono HBm.out.size)); clear SA HBm U1 U2 V1)
      | fail)
  replace X1 := hid (X1.out.below HT.out)
  replace X2 := hid (X2.out.below HT.out)
  replace XQ := hid (XQ.out.below HT.out)
  have F4 := hid (F3.out.trans (HT.out.mono F3.out.size))
  clear a0 a1 a2 a3 e0 e1 e2 e3 f0 f1 f2 f3 S0 F3 HT XP
  have a0 := X1.out.at0
  have a1 := X1.out.at1
  have a2 := X1.out.at2
  have a3 := X1.out.at3
  have e0 := X2.out.at0
  have e1 := X2.out.at1
  have e2 := X2.out.at2
  have e3 := X2.out.at3
  go_wp2_with fail
  refine (SG.out _ F4.out).mono ?_
  rintro e w4 ⟨rfl, C1⟩
  replace X1 := hid (X1.out.below C1)
  replace X2 := hid (X2.out.below C1)
  replace XQ := hid (XQ.out.below C1)
  have F5 := hid (F4.out.trans (C1.mono F4.out.size))
  clear a0 a1 a2 a3 e0 e1 e2 e3 C1 SG F4
  have a0 := X1.out.at0
  have a1 := X1.out.at1
  have a2 := X1.out.at2
  have a3 := X1.out.at3
  have e0 := X2.out.at0
  have e1 := X2.out.at1
  have e2 := X2.out.at2
  have e3 := X2.out.at3
  have f0 := XQ.out.at0
  have f1 := XQ.out.at1
  have f2 := XQ.out.at2
  have f3 := XQ.out.at3
  clear a0 a1 a2 a3 e0 e1 e2 e3
  go_wp2_with fail
  refine (rsame_c w4 false false none none none none 0 0 0 0 0 0 0 0 [] [] (Sl.none _) (Sl.none _) (Sl.none _) (Sl.none _)).mono ?_
  rintro e w5 ⟨rfl, C4⟩
  have F6 := hid (F5.out.trans (C4.mono F5.out.size))
  clear C4 f0 f1 f2 f3
  go_wp2_with fail
  refine (AW.out w5).mono ?_
  rintro e w6 ⟨rfl, C5⟩
  have F7 := hid (F6.out.trans (C5.mono F6.out.size))
  clear C5
  go_wp2
  go_ret
  exact ⟨rfl, F7.out⟩

set_option maxHeartbeats 16000000 in
theorem products_ok (w : World) (s1 : Bool) (p1 : Option Addr) (n1 c1 : Nat) (xs1 : List Nat) (q1 : Option Addr) (m1 d1 : Nat) (ys1 : List Nat) (s2 : Bool) (p2 : Option Addr) (n2 c2 : Nat) (xs2 : List Nat) (q2 : Option Addr) (m2 d2 : Nat) (ys2 : List Nat)
    (h1 : Sl w p1 n1 c1 xs1) (g1 : Sl w q1 m1 d1 ys1) (h2 : Sl w p2 n2 c2 xs2) (g2 : Sl w q2 m2 d2 ys2) (y1 : val ys1 ≠ 0) (y2 : val ys2 ≠ 0) (x2 : val xs2 ≠ 0) (b1 : n1 ≤ 8388608) (b2 : m1 ≤ 8388608) (b3 : n2 ≤ 8388608) (b4 : m2 ≤ 8388608) :
    Calls Tryz.prog 3 #[.agg #[.bool s1, .slice p1 n1 c1, .bool false, .slice q1 m1 d1], .agg #[.bool s2, .slice p2 n2 c2, .bool false, .slice q2 m2 d2]] w fun e w' => e = .returned (.bool true) ∧ Below w.heap.size w w' := by
  obtain ⟨W, g, hg, hW, X1, X2, HB⟩ := enterP w s1 p1 n1 c1 false q1 m1 d1 s2 p2 n2 c2 false q2 m2 d2
  have MU := hid (ratmul_ok W s1 p1 n1 c1 xs1 q1 m1 d1 ys1 s2 p2 n2 c2 xs2 q2 m2 d2 ys2 (h1.below HB.out) (g1.below HB.out) (h2.below HB.out) (g2.below HB.out) y1 y2 b1 b2 b3 b4)
  have DV := hid (fun (W' : World) (hb : Below w.heap.size w W') => ratdiv_ok W' s1 p1 n1 c1 xs1 q1 m1 d1 ys1 s2 p2 n2 c2 xs2 q2 m2 d2 ys2 (h1.below hb) (g1.below hb) (h2.below hb) (g2.below hb) y1 y2 x2 b1 b2 b3 b4)
  have RMU := hid (fun (W' : World) (hb : Below w.heap.size w W') => rrmul_c W' s1 p1 n1 c1 xs1 q1 m1 d1 ys1 s2 p2 n2 c2 xs2 q2 m2 d2 ys2 (h1.below hb) (g1.below hb) (h2.below hb) (g2.below hb) y1 y2 b1 b2 b3 b4)
  have RDV := hid (fun (W' : World) (hb : Below w.heap.size w W') => rrdiv_c W' s1 p1 n1 c1 xs1 q1 m1 d1 ys1 s2 p2 n2 c2 xs2 q2 m2 d2 ys2 (h1.below hb) (g1.below hb) (h2.below hb) (g2.below hb) y1 x2 b1 b2 b3 b4)
  have BO := hid (fun (W' : World) (hb : Below w.heap.size w W') => both_c W' s1 p1 n1 c1 false q1 m1 d1 s2 p2 n2 c2 false q2 m2 d2 ys1 ys2 (g1.below hb) (g2.below hb) (by omega) (by omega) true true (by rw [sign_pos y1]; rfl) (by rw [sign_pos y2]; rfl))
  have SG := hid (fun (W' : World) (hb : Below w.heap.size w W') => zrsign_c W' s2 p2 n2 c2 xs2 (h2.below hb) (by omega))
  have AW := hid rawake_c
  obtain ⟨sn, hsn⟩ : ∃ z, (sg s2 (val xs2)).sign = z := ⟨_, rfl⟩
  have hs0 : sn ≠ 0 := by
    rw [← hsn]
    intro e
    have := Int.sign_eq_zero_iff_zero.1 e
    unfold sg at this
    split at this <;> omega
  have hsz : (sn == 0) = false := beq_eq_false_iff_ne.2 hs0
  rw [hsn] at SG
  have hsr : -1 ≤ sn ∧ sn ≤ 1 := by
    rw [← hsn]
    rcases Int.sign_trichotomy (sg s2 (val xs2)) with e | e | e <;> omega
  clear hsn
  generalize dR (sw false (sg s1 (val xs1) * sg s2 (val xs2))) (val ys1 * val ys2) = BM at *
  generalize nR (sw false (sg s1 (val xs1) * sg s2 (val xs2))) (val ys1 * val ys2) = AM at *
  generalize dR (sw s2 (sg s1 (val xs1) * sg false (val ys2))) (val ys1 * val xs2) = BD at *
  generalize nR (sw s2 (sg s1 (val xs1) * sg false (val ys2))) (val ys1 * val xs2) = AD at *
  have a0 := X1.out.at0
  have a1 := X1.out.at1
  have a2 := X1.out.at2
  have a3 := X1.out.at3
  have e0 := X2.out.at0
  have e1 := X2.out.at1
  have e2 := X2.out.at2
  have e3 := X2.out.at3
  clear h1 g1 h2 g2 y1 y2 x2
  go_enter Tryz.func3, Tryz.ntmps3
  go_wp2_with fail
  refine MU.out.mono ?_
  rintro e w1 ⟨bz, L1, D1, r1, k1, L2, r2, k2, rfl, C1, S1, S2, N1, l1, l2, -, -⟩
  have T1 := hid S1
  have T2 := hid S2
  have HN := hid N1
  have C2 := below_alloc w1 (.cells #[.bool bz, .slice r1 L1 k1, .bool false, .slice r2 L2 k2] 26)
  have XP := hid (rbox_alloc w1 bz r1 L1 k1 false r2 L2 k2)
  obtain ⟨W1, hW1⟩ : ∃ W, w1.alloc (.cells #[.bool bz, .slice r1 L1 k1, .bool false, .slice r2 L2 k2] 26) = W := ⟨_, rfl⟩
  rw [hW1] at C2 XP
  obtain ⟨gp, hgp⟩ : ∃ g, w1.heap.size = g := ⟨_, rfl⟩
  rw [hgp] at XP
  replace X1 := hid (X1.out.below C1)
  replace X2 := hid (X2.out.below C1)
  replace X1 := hid (X1.out.below C2)
  replace X2 := hid (X2.out.below C2)
  replace T1 := hid (T1.out.below C2)
  replace T2 := hid (T2.out.below C2)
  have F1 := hid (HB.out.trans ((C1.trans (C2.mono C1.size)).mono HB.out.size))
  clear a0 a1 a2 a3 e0 e1 e2 e3 C1 C2 S1 S2 N1 MU hW l1 l2
  have a0 := X1.out.at0
  have a1 := X1.out.at1
  have a2 := X1.out.at2
  have a3 := X1.out.at3
  have e0 := X2.out.at0
  have e1 := X2.out.at1
  have e2 := X2.out.at2
  have e3 := X2.out.at3
  go_wp2_with fail
  refine (DV.out W1 F1.out).mono ?_
  rintro e w2 ⟨bq, L3, D3, r3, k3, L4, r4, k4, rfl, C1, S1, S2, N1, l1, l2, -, -⟩
  have T3 := hid S1
  have T4 := hid S2
  have HN3 := hid N1
  clear S1 S2 N1 l1 l2
  have C2 := below_alloc w2 (.cells #[.bool bq, .slice r3 L3 k3, .bool false, .slice r4 L4 k4] 26)
  have XQ := hid (rbox_alloc w2 bq r3 L3 k3 false r4 L4 k4)
  obtain ⟨W2, hW2⟩ : ∃ W, w2.alloc (.cells #[.bool bq, .slice r3 L3 k3, .bool false, .slice r4 L4 k4] 26) = W := ⟨_, rfl⟩
  rw [hW2] at C2 XQ
  obtain ⟨gq, hgq⟩ : ∃ g, w2.heap.size = g := ⟨_, rfl⟩
  rw [hgq] at XQ
  replace X1 := hid (X1.out.below C1)
  replace X2 := hid (X2.out.below C1)
  replace XP := hid (XP.out.below C1)
  replace T1 := hid (T1.out.below C1)
  replace T2 := hid (T2.out.below C1)
  replace X1 := hid (X1.out.below C2)
  replace X2 := hid (X2.out.below C2)
  replace XP := hid (XP.out.below C2)
  replace T1 := hid (T1.out.below C2)
  replace T2 := hid (T2.out.below C2)
  replace T3 := hid (T3.out.below C2)
  replace T4 := hid (T4.out.below C2)
  have F2 := hid (F1.out.trans ((C1.trans (C2.mono C1.size)).mono F1.out.size))
  clear a0 a1 a2 a3 e0 e1 e2 e3 C1 C2 DV hW1
  have a0 := X1.out.at0
  have a1 := X1.out.at1
  have a2 := X1.out.at2
  have a3 := X1.out.at3
  have e0 := X2.out.at0
  have e1 := X2.out.at1
  have e2 := X2.out.at2
  have e3 := X2.out.at3
  go_wp2_with fail
  refine (BO.out _ F2.out).mono ?_
  rintro e w3 ⟨rfl, C1⟩
  replace X1 := hid (X1.out.below C1)
  replace X2 := hid (X2.out.below C1)
  replace XP := hid (XP.out.below C1)
  replace XQ := hid (XQ.out.below C1)
  replace T1 := hid (T1.out.below C1)
  replace T2 := hid (T2.out.below C1)
  replace T3 := hid (T3.out.below C1)
  replace T4 := hid (T4.out.below C1)
  have F3 := hid (F2.out.trans (C1.mono F2.out.size))
  clear a0 a1 a2 a3 e0 e1 e2 e3 C1 BO hW2 F1 F2
  have a0 := X1.out.at0
  have a1 := X1.out.at1
  have a2 := X1.out.at2
  have a3 := X1.out.at3
  have e0 := X2.out.at0
  have e1 := X2.out.at1
  have e2 := X2.out.at2
  have e3 := X2.out.at3
  have f0 := XP.out.at0
  have f1 := XP.out.at1
  have f2 := XP.out.at2
  have f3 := XP.out.at3
  have SA : Hid (∀ (W' : World), Below w3.heap.size w3 W' → ∀ (o1 o2 : Option Addr) (M1 j1 M2 j2 : Nat) (bm : Bool) (E1 : List Nat), Sl W' o1 M1 j1 E1 → Sl W' o2 M2 j2 (digs BM) → Nm bm M1 E1 AM → Calls Tryz.prog 7 #[.agg #[.bool bz, .slice r1 L1 k1, .bool false, .slice r2 L2 k2], .agg #[.bool bm, .slice o1 M1 j1, .bool false, .slice o2 M2 j2]] W' fun e w' => e = .returned (.bool true) ∧ Below W'.heap.size W' w') := by
    intro W' hb o1 o2 M1 j1 M2 j2 bm E1 u1 u2 v1
    obtain ⟨rfl, rfl⟩ := Nm.same HN.out v1 rfl
    exact rsame_c W' _ false r1 o1 r2 o2 L1 k1 M1 j1 L2 k2 M2 j2 _ (digs BM) (T1.out.below hb) u1 (T2.out.below hb) u2
  clear T1 T2 HN
  have S0 : Hid (SP w3 g gp s1 p1 n1 c1 q1 m1 d1 s2 p2 n2 c2 q2 m2 d2 bz r1 L1 k1 r2 L2 k2 w3.drew) := ⟨a0, a1, a2, a3, e0, e1, e2, e3, f0, f1, f2, f3, (Below.refl w3.heap.size w3).drew⟩
  go_wp2_with fail
  go_region_held3 (fun w' => w'.cell? ⟨g, 0, none⟩ = some (.bool s1) ∧ w'.cell? ⟨g, 1, none⟩ = some (.slice p1 n1 c1) ∧ w'.cell? ⟨g, 2, none⟩ = some (.bool false) ∧ w'.cell? ⟨g, 3, none⟩ = some (.slice q1 m1 d1) ∧ w'.cell? ⟨g + 1, 0, none⟩ = some (.bool s2) ∧ w'.cell? ⟨g + 1, 1, none⟩ = some (.slice p2 n2 c2) ∧ w'.cell? ⟨g + 1, 2, none⟩ = some (.bool false) ∧ w'.cell? ⟨g + 1, 3, none⟩ = some (.slice q2 m2 d2) ∧ w'.cell? ⟨gp, 0, none⟩ = some (.bool bz) ∧ w'.cell? ⟨gp, 1, none⟩ = some (.slice r1 L1 k1) ∧ w'.cell? ⟨gp, 2, none⟩ = some (.bool false) ∧ w'.cell? ⟨gp, 3, none⟩ = some (.slice r2 L2 k2) ∧ Hid (Below w3.heap.size w3 w'))
    (first | (with_reducible exact SP.keep (W := w3) (g := g) (ga := gp) (s1 := s1) (p1 := p1) (n1 := n1) (c1 := c1) (q1 := q1) (m1 := m1) (d1 := d1) (s2 := s2) (p2 := p2) (n2 := n2) (c2 := c2) (q2 := q2) (m2 := m2) (d2 := d2) (bz := bz) (r1 := r1) (L1 := L1) (k1 := k1) (r2 := r2) (L2 := L2) (k2 := k2) (by assumption) hBz) | exact S0.out | fail)
    (first
      | (go_at_call 9; refine (RMU.out _ (F3.out.trans ((SP.bel (W := w3) (g := g) (ga := gp) (s1 := s1) (p1 := p1) (n1 := n1) (c1 := c1) (q1 := q1) (m1 := m1) (d1 := d1) (s2 := s2) (p2 := p2) (n2 := n2) (c2 := c2) (q2 := q2) (m2 := m2) (d2 := d2) (bz := bz) (r1 := r1) (L1 := L1) (k1 := k1) (r2 := r2) (L2 := L2) (k2 := k2) (by with_reducible assumption)).mono F3.out.size))).mono ?_; rintro e wm ⟨bm, M1, E1, o1, j1, M2, o2, j2, rfl, hBz, u1, u2, v1, y1, y2, z1, z2⟩; have HBm := hid ((SP.bel (W := w3) (g := g) (ga := gp) (s1 := s1) (p1 := p1) (n1 := n1) (c1 := c1) (q1 := q1) (m1 := m1) (d1 := d1) (s2 := s2) (p2 := p2) (n2 := n2) (c2 := c2) (q2 := q2) (m2 := m2) (d2 := d2) (bz := bz) (r1 := r1) (L1 := L1) (k1 := k1) (r2 := r2) (L2 := L2) (k2 := k2) (by with_reducible assumption)).trans (hBz.mono (SP.bel (W := w3) (g := g) (ga := gp) (s1 := s1) (p1 := p1) (n1 := n1) (c1 := c1) (q1 := q1) (m1 := m1) (d1 := d1) (s2 := s2) (p2 := p2) (n2 := n2) (c2 := c2) (q2 := q2) (m2 := m2) (d2 := d2) (bz := bz) (r1 := r1) (L1 := L1) (k1 := k1) (r2 := r2) (L2 := L2) (k2 := k2) (by with_reducible assumption)).size)); have U1 := u1; have U2 := u2; have V1 := v1; clear u1 u2 v1 z1 z2 y1 y2 RMU)
      | (go_at_call 7; refine (SA.out _ HBm.out o1 o2 M1 j1 M2 j2 bm E1 U1.out U2.out V1.out).mono ?_; rintro e ws ⟨rfl, hBz⟩; have HT := hid (HBm.out.trans (hBz.mono HBm.out.size)); clear SA HBm U1 U2 V1)
      | fail)
  replace X1 := hid (X1.out.below HT.out)
  replace X2 := hid (X2.out.below HT.out)
  replace XQ := hid (XQ.out.below HT.out)
  replace T3 := hid (T3.out.below HT.out)
  replace T4 := hid (T4.out.below HT.out)
  have F4 := hid (F3.out.trans (HT.out.mono F3.out.size))
  clear a0 a1 a2 a3 e0 e1 e2 e3 f0 f1 f2 f3 S0 F3 HT XP
  have a0 := X1.out.at0
  have a1 := X1.out.at1
  have a2 := X1.out.at2
  have a3 := X1.out.at3
  have e0 := X2.out.at0
  have e1 := X2.out.at1
  have e2 := X2.out.at2
  have e3 := X2.out.at3
  go_wp2_with fail
  refine (SG.out _ F4.out).mono ?_
  rintro e w4 ⟨rfl, C1⟩
  replace X1 := hid (X1.out.below C1)
  replace X2 := hid (X2.out.below C1)
  replace XQ := hid (XQ.out.below C1)
  replace T3 := hid (T3.out.below C1)
  replace T4 := hid (T4.out.below C1)
  have F5 := hid (F4.out.trans (C1.mono F4.out.size))
  clear a0 a1 a2 a3 e0 e1 e2 e3 C1 SG F4
  have a0 := X1.out.at0
  have a1 := X1.out.at1
  have a2 := X1.out.at2
  have a3 := X1.out.at3
  have e0 := X2.out.at0
  have e1 := X2.out.at1
  have e2 := X2.out.at2
  have e3 := X2.out.at3
  have f0 := XQ.out.at0
  have f1 := XQ.out.at1
  have f2 := XQ.out.at2
  have f3 := XQ.out.at3
  have SB : Hid (∀ (W' : World), Below w4.heap.size w4 W' → ∀ (o1 o2 : Option Addr) (M1 j1 M2 j2 : Nat) (bm : Bool) (E1 : List Nat), Sl W' o1 M1 j1 E1 → Sl W' o2 M2 j2 (digs BD) → Nm bm M1 E1 AD → Calls Tryz.prog 7 #[.agg #[.bool bq, .slice r3 L3 k3, .bool false, .slice r4 L4 k4], .agg #[.bool bm, .slice o1 M1 j1, .bool false, .slice o2 M2 j2]] W' fun e w' => e = .returned (.bool true) ∧ Below W'.heap.size W' w') := by
    intro W' hb o1 o2 M1 j1 M2 j2 bm E1 u1 u2 v1
    obtain ⟨rfl, rfl⟩ := Nm.same HN3.out v1 rfl
    exact rsame_c W' _ false r3 o1 r4 o2 L3 k3 M1 j1 L4 k4 M2 j2 _ (digs BD) (T3.out.below hb) u1 (T4.out.below hb) u2
  clear T3 T4 HN3
  have S0 : Hid (SP w4 g gq s1 p1 n1 c1 q1 m1 d1 s2 p2 n2 c2 q2 m2 d2 bq r3 L3 k3 r4 L4 k4 w4.drew) := ⟨a0, a1, a2, a3, e0, e1, e2, e3, f0, f1, f2, f3, (Below.refl w4.heap.size w4).drew⟩
  go_wp2_with fail
  go_region_held3 (fun w' => w'.cell? ⟨g, 0, none⟩ = some (.bool s1) ∧ w'.cell? ⟨g, 1, none⟩ = some (.slice p1 n1 c1) ∧ w'.cell? ⟨g, 2, none⟩ = some (.bool false) ∧ w'.cell? ⟨g, 3, none⟩ = some (.slice q1 m1 d1) ∧ w'.cell? ⟨g + 1, 0, none⟩ = some (.bool s2) ∧ w'.cell? ⟨g + 1, 1, none⟩ = some (.slice p2 n2 c2) ∧ w'.cell? ⟨g + 1, 2, none⟩ = some (.bool false) ∧ w'.cell? ⟨g + 1, 3, none⟩ = some (.slice q2 m2 d2) ∧ w'.cell? ⟨gq, 0, none⟩ = some (.bool bq) ∧ w'.cell? ⟨gq, 1, none⟩ = some (.slice r3 L3 k3) ∧ w'.cell? ⟨gq, 2, none⟩ = some (.bool false) ∧ w'.cell? ⟨gq, 3, none⟩ = some (.slice r4 L4 k4) ∧ Hid (Below w4.heap.size w4 w'))
    (first | (with_reducible exact SP.keep (W := w4) (g := g) (ga := gq) (s1 := s1) (p1 := p1) (n1 := n1) (c1 := c1) (q1 := q1) (m1 := m1) (d1 := d1) (s2 := s2) (p2 := p2) (n2 := n2) (c2 := c2) (q2 := q2) (m2 := m2) (d2 := d2) (bz := bq) (r1 := r3) (L1 := L3) (k1 := k3) (r2 := r4) (L2 := L4) (k2 := k4) (by assumption) hBz) | exact S0.out | fail)
    (first
      | (go_at_call 11; refine (RDV.out _ (F5.out.trans ((SP.bel (W := w4) (g := g) (ga := gq) (s1 := s1) (p1 := p1) (n1 := n1) (c1 := c1) (q1 := q1) (m1 := m1) (d1 := d1) (s2 := s2) (p2 := p2) (n2 := n2) (c2 := c2) (q2 := q2) (m2 := m2) (d2 := d2) (bz := bq) (r1 := r3) (L1 := L3) (k1 := k3) (r2 := r4) (L2 := L4) (k2 := k4) (by with_reducible assumption)).mono F5.out.size))).mono ?_; rintro e wm ⟨bm, M1, E1, o1, j1, M2, o2, j2, rfl, hBz, u1, u2, v1, y1, y2, z1, z2⟩; have HBm := hid ((SP.bel (W := w4) (g := g) (ga := gq) (s1 := s1) (p1 := p1) (n1 := n1) (c1 := c1) (q1 := q1) (m1 := m1) (d1 := d1) (s2 := s2) (p2 := p2) (n2 := n2) (c2 := c2) (q2 := q2) (m2 := m2) (d2 := d2) (bz := bq) (r1 := r3) (L1 := L3) (k1 := k3) (r2 := r4) (L2 := L4) (k2 := k4) (by with_reducible assumption)).trans (hBz.mono (SP.bel (W := w4) (g := g) (ga := gq) (s1 := s1) (p1 := p1) (n1 := n1) (c1 := c1) (q1 := q1) (m1 := m1) (d1 := d1) (s2 := s2) (p2 := p2) (n2 := n2) (c2 := c2) (q2 := q2) (m2 := m2) (d2 := d2) (bz := bq) (r1 := r3) (L1 := L3) (k1 := k3) (r2 := r4) (L2 := L4) (k2 := k4) (by with_reducible assumption)).size)); have U1 := u1; have U2 := u2; have V1 := v1; clear u1 u2 v1 z1 z2 y1 y2 RDV)
      | (go_at_call 7; refine (SB.out _ HBm.out o1 o2 M1 j1 M2 j2 bm E1 U1.out U2.out V1.out).mono ?_; rintro e ws ⟨rfl, hBz⟩; have HT := hid (HBm.out.trans (hBz.mono HBm.out.size)); clear SB HBm U1 U2 V1)
      | (go_at_call 8; refine (AW.out _).mono ?_; rintro e wz ⟨rfl, hBz⟩; have HBZ := hid ((SP.bel (W := w4) (g := g) (ga := gq) (s1 := s1) (p1 := p1) (n1 := n1) (c1 := c1) (q1 := q1) (m1 := m1) (d1 := d1) (s2 := s2) (p2 := p2) (n2 := n2) (c2 := c2) (q2 := q2) (m2 := m2) (d2 := d2) (bz := bq) (r1 := r3) (L1 := L3) (k1 := k3) (r2 := r4) (L2 := L4) (k2 := k4) (by with_reducible assumption)).trans (hBz.mono (SP.bel (W := w4) (g := g) (ga := gq) (s1 := s1) (p1 := p1) (n1 := n1) (c1 := c1) (q1 := q1) (m1 := m1) (d1 := d1) (s2 := s2) (p2 := p2) (n2 := n2) (c2 := c2) (q2 := q2) (m2 := m2) (d2 := d2) (bz := bq) (r1 := r3) (L1 := L3) (k1 := k3) (r2 := r4) (L2 := L4) (k2 := k4) (by with_reducible assumption)).size)); clear AW)
      | fail)
  all_goals go_wp2
  all_goals go_ret
  all_goals exact ⟨rfl, F5.out.trans (HBZ.out.mono F5.out.size)⟩

theorem ratproducts_walk (w : World) (s1 : Bool) (p1 : Option Addr) (n1 c1 : Nat) (xs1 : List Nat) (t1 : Bool) (q1 : Option Addr) (m1 d1 : Nat) (ys1 : List Nat) (s2 : Bool) (p2 : Option Addr) (n2 c2 : Nat) (xs2 : List Nat) (t2 : Bool) (q2 : Option Addr) (m2 d2 : Nat) (ys2 : List Nat)
    (g1 : Sl w p1 n1 c1 xs1) (h1 : Sl w q1 m1 d1 ys1) (g2 : Sl w p2 n2 c2 xs2) (h2 : Sl w q2 m2 d2 ys2) (u1 : c1 ≤ 1048576) (u2 : d1 ≤ 1048576) (u3 : c2 ≤ 1048576) (u4 : d2 ≤ 1048576) :
    Calls Tryz.prog 3 #[.agg #[.bool s1, .slice p1 n1 c1, .bool t1, .slice q1 m1 d1], .agg #[.bool s2, .slice p2 n2 c2, .bool t2, .slice q2 m2 d2]] w fun e w' => e = .returned (.bool true) ∧ Below w.heap.size w w' := by
  have b1 : n1 ≤ 1048576 := Nat.le_trans g1.cap u1
  have b2 : m1 ≤ 1048576 := Nat.le_trans h1.cap u2
  have b3 : n2 ≤ 1048576 := Nat.le_trans g2.cap u3
  have b4 : m2 ≤ 1048576 := Nat.le_trans h2.cap u4
  by_cases hv : 0 < (sg t1 (val ys1)).sign ∧ 0 < (sg t2 (val ys2)).sign
  · obtain ⟨rfl, y1⟩ := sign_up hv.1
    obtain ⟨rfl, y2⟩ := sign_up hv.2
    by_cases x2 : val xs2 = 0
    · exact products_zero w s1 p1 n1 c1 xs1 q1 m1 d1 ys1 s2 p2 n2 c2 xs2 q2 m2 d2 ys2 g1 h1 g2 h2 y1 y2 x2 (by omega) (by omega) (by omega) (by omega)
    · exact products_ok w s1 p1 n1 c1 xs1 q1 m1 d1 ys1 s2 p2 n2 c2 xs2 q2 m2 d2 ys2 g1 h1 g2 h2 y1 y2 x2 (by omega) (by omega) (by omega) (by omega)
  · have hk : false = (decide (0 < (sg t1 (val ys1)).sign) && decide (0 < (sg t2 (val ys2)).sign)) := by
      rw [← Bool.decide_and]
      exact (decide_eq_false hv).symm
    exact products_bad w s1 p1 n1 c1 t1 q1 m1 d1 s2 p2 n2 c2 t2 q2 m2 d2 ys1 ys2 h1 h2 (by omega) (by omega) hk
end Go.Proofs.YtdadmchlehfiiaaGreatDoor
