/-
  NatQuotients' walk: it returns true and writes nothing that was there.
-/
import Derived.Test.YtchenimpopphfaaDoorRefDivLong
import Derived.Test.YtchenimpopphfaaDoorCopyTouch
namespace Go.Proofs.YtchenimpopphfaaDoor
open Go.RowKit Nt
set_option linter.unusedSimpArgs false
set_option linter.unusedVariables false

/-- Where a law writes, apart from another row. -/
theorem Res.pick2 {w W : World} {r s : Option Addr} {c n lo hi : Nat} (h : Res w W r c n) (hs : ∀ b o, r = some ⟨b, o, none⟩ → lo ≤ b ∧ b < hi) (ht : Two r s) (hb : ∀ b o, s = some ⟨b, o, none⟩ → b < W.heap.size) (j : Nat) :
    ∃ b, Target W r (digs n).length b ∧ (lo ≤ b ∧ b < hi ∨ b = W.heap.size + j) ∧ ∀ b' o', s = some ⟨b', o', none⟩ → b ≠ b' := by
  by_cases h0 : (digs n).length = 0
  · exact ⟨W.heap.size + j, Or.inl h0, Or.inr rfl, fun b' o' e => by have := hb b' o' e; omega⟩
  · obtain ⟨b, o, e, hc⟩ := h.sl.lie 0 (by omega)
    obtain ⟨rfl, h2, rest, h3, _, _⟩ := h.own b o e
    exact ⟨b, Or.inr ⟨e, _, h3, by simp⟩, Or.inl (hs b 0 e), fun b' o' e' => ht b 0 b' o' e e'⟩

theorem div_zero_s (w : World) (p q : Option Addr) (n c m d : Nat) (xs ys : List Nat) (h : Sl w p n c xs) (h' : Sl w q m d ys) (h0 : val ys = 0) :
    Calls Tryd.prog 25 #[.slice p n c, .slice q m d] w fun e w' => e = .returned (.tuple #[.slice none 0 0, .slice none 0 0, .int .i64 11]) ∧ w' = w := by
  have T1 := hid (trim_s w p n c _ xs rfl h)
  have T2 := hid (trim_s w q m d 0 ys (by rw [h0]; rfl) h')
  clear h0 h h'
  go_enter Tryd.func25, Tryd.ntmps25
  go_wp2_with fail
  refine T1.out.mono ?_
  rintro e w' ⟨rfl, rfl⟩
  go_wp2_with fail
  refine T2.out.mono ?_
  rintro e w' ⟨rfl, rfl⟩
  go_wp2
  go_ret3
  exact ⟨rfl, rfl⟩

set_option maxHeartbeats 8000000 in
theorem quot_ok (w : World) (p0 : Option Addr) (n0 c0 : Nat) (xs0 : List Nat) (p1 : Option Addr) (n1 c1 : Nat) (xs1 : List Nat) (h0 : Sl w p0 n0 c0 xs0) (h1 : Sl w p1 n1 c1 xs1)
    (b0 : c0 ≤ 35184372087808) (b1 : c1 ≤ 35184372087808) (hcmp : val xs1 ≠ 0) :
    Calls Tryd.prog 6 #[.slice p0 n0 c0, .slice p1 n1 c1] w fun e w' => e = .returned (.bool true) ∧ Below w.heap.size w w' := by
  have hn0 : n0 ≤ 35184372087808 := Nat.le_trans h0.cap b0
  have hn1 : n1 ≤ 35184372087808 := Nat.le_trans h1.cap b1
  have L0 := hid h0
  have L1 := hid h1
  have L_a := hid h0
  have L_b := hid h1
  have HCMP := hid hcmp
  clear h0 h1 hcmp
  go_enter Tryd.func6, Tryd.ntmps6
  go_wp2_with fail
  refine (copied_c _ p0 n0 c0 xs0 L_a.out b0).mono ?_
  rintro e W1 ⟨gx, crx, rfl, C1⟩
  have B1 : Below w.heap.size w W1 := C1.below
  replace L_a := hid (L_a.out.below B1)
  replace L_b := hid (L_b.out.below B1)
  have HCx := hid (C1)
  clear B1
  have hgx : gx < W1.heap.size := Copy.lt C1
  have z01 : w.heap.size ≤ W1.heap.size := C1.below.size
  clear C1
  go_wp2_with fail
  refine (copied_c _ p1 n1 c1 xs1 L_b.out b1).mono ?_
  rintro e W2 ⟨gy, cry, rfl, C2⟩
  have B2 : Below W1.heap.size W1 W2 := C2.below
  replace L_a := hid (L_a.out.below B2)
  replace L_b := hid (L_b.out.below B2)
  replace HCx := hid (HCx.out.later B2)
  have HCy := hid (C2)
  clear B2
  have hgy : gy < W2.heap.size := Copy.lt C2
  have z12 : W1.heap.size ≤ W2.heap.size := C2.below.size
  clear C2
  have S_x := hid (HCx.out.sl L0.out.ok L0.out.len)
  have S_y := hid (HCy.out.sl L1.out.ok L1.out.len)
  go_wp2_with fail
  refine (div_c _ _ _ n0 crx n1 cry xs0 xs1 S_x.out S_y.out HCMP.out (by omega)).mono ?_
  rintro e W3 ⟨rq, cq, rs, cs, rfl, R3, T3, U3⟩
  have B3 : Below W2.heap.size W2 W3 := R3.below
  replace L_a := hid (L_a.out.below B3)
  replace L_b := hid (L_b.out.below B3)
  replace HCx := hid (HCx.out.later B3)
  replace HCy := hid (HCy.out.later B3)
  replace S_x := hid (S_x.out.below B3)
  replace S_y := hid (S_y.out.below B3)
  have R_q := hid (R3)
  have R_s := hid (T3)
  clear B3
  have SP_q := hid R3.span
  have SP_s := hid T3.span
  have HU := hid U3
  have z23 : W2.heap.size ≤ W3.heap.size := R3.below.size
  clear R3 T3 U3
  have K := hid (Below.refl W3.heap.size W3)
  go_wp2_with fail
  refine (rdiv_c _ p0 p1 n0 c0 n1 c1 xs0 xs1 L_a.out L_b.out HCMP.out (by omega) (by omega)).mono ?_
  rintro e W4 ⟨ru, cu, rv, cv, rfl, A4, E4⟩
  have B4 : Below W3.heap.size W3 W4 := A4.below
  replace L_a := hid (L_a.out.below B4)
  replace L_b := hid (L_b.out.below B4)
  replace HCx := hid (HCx.out.later B4)
  replace HCy := hid (HCy.out.later B4)
  replace S_x := hid (S_x.out.below B4)
  replace S_y := hid (S_y.out.below B4)
  replace R_q := hid (R_q.out.later B4)
  replace R_s := hid (R_s.out.later B4)
  replace K := hid (K.out.trans (B4.mono K.out.size))
  have L_u := hid (A4.sl)
  have L_v := hid (E4.sl)
  clear B4
  have FV := hid E4.fresh
  clear A4 E4
  go_wp2_with fail
  refine (same_c _ rq ru _ _ _ _ _ R_q.out.sl L_u.out).mono ?_
  rintro e wq ⟨rfl, nq, rfl⟩
  generalize hW5 : World.drewN W4 nq = W5
  have B5 : Below W4.heap.size W4 W5 := by rw [← hW5]; exact below_drewN' (Below.refl _ _) nq
  replace L_a := hid (L_a.out.below B5)
  replace L_b := hid (L_b.out.below B5)
  replace HCx := hid (HCx.out.later B5)
  replace HCy := hid (HCy.out.later B5)
  replace S_x := hid (S_x.out.below B5)
  replace S_y := hid (S_y.out.below B5)
  replace R_q := hid (R_q.out.later B5)
  replace R_s := hid (R_s.out.later B5)
  replace K := hid (K.out.trans (B5.mono K.out.size))
  replace L_u := hid (L_u.out.below B5)
  replace L_v := hid (L_v.out.below B5)
  clear B5 hW5
  clear L_u
  go_wp2_with fail
  refine (same_c _ rs rv _ _ _ _ _ R_s.out.sl L_v.out).mono ?_
  rintro e wq ⟨rfl, nq, rfl⟩
  generalize hW6 : World.drewN W5 nq = W6
  have B6 : Below W5.heap.size W5 W6 := by rw [← hW6]; exact below_drewN' (Below.refl _ _) nq
  replace L_a := hid (L_a.out.below B6)
  replace L_b := hid (L_b.out.below B6)
  replace HCx := hid (HCx.out.later B6)
  replace HCy := hid (HCy.out.later B6)
  replace S_x := hid (S_x.out.below B6)
  replace S_y := hid (S_y.out.below B6)
  replace R_q := hid (R_q.out.later B6)
  replace R_s := hid (R_s.out.later B6)
  replace K := hid (K.out.trans (B6.mono K.out.size))
  replace L_v := hid (L_v.out.below B6)
  clear B6 hW6
  clear S_x S_y
  go_wp2_with fail
  refine (awake_c _).mono ?_
  rintro e W7 ⟨rfl, A7⟩
  have B7 : Below W6.heap.size W6 W7 := A7
  replace L_a := hid (L_a.out.below B7)
  replace L_b := hid (L_b.out.below B7)
  replace HCx := hid (HCx.out.later B7)
  replace HCy := hid (HCy.out.later B7)
  replace R_q := hid (R_q.out.later B7)
  replace R_s := hid (R_s.out.later B7)
  replace K := hid (K.out.trans (B7.mono K.out.size))
  replace L_v := hid (L_v.out.below B7)
  clear B7
  clear A7
  have zK := K.out.size
  obtain ⟨bs, htS, hbs, hap⟩ := R_q.out.pick2 (lo := W2.heap.size) (hi := W3.heap.size) SP_q.out (s := rs) HU.out (fun b o e => Nat.lt_of_lt_of_le (SP_s.out b o e).2 zK) 1
  obtain ⟨LS, hLS⟩ : ∃ L, (digs (val xs0 / val xs1)).length = L := ⟨_, rfl⟩
  have hLSb : LS ≤ 35184372087808 := by rw [← hLS]; exact Nat.le_trans (digs_length_mono (Nat.div_le_self _ _)) (by have := L0.out.dl; omega)
  rw [hLS] at htS ⊢
  have HTS := hid htS
  have q1 := hid (show gx ≠ bs ∧ gy ≠ bs ∧ w.heap.size ≤ bs ∧ W1.heap.size ≤ bs from by omega)
  have AS : Hid (Apart rs (digs (val xs0 % val xs1)) bs) := fun b o e _ => Ne.symm (hap b o e)
  have AV : Hid (bs < W3.heap.size → Apart rv (digs (val xs0 % val xs1)) bs) := fun hlt b o e _ => by have := FV.out b o e; omega
  have AV2 : Hid (Apart rv (digs (val xs0 % val xs1)) bs) := by
    rcases hbs with hb | hb
    · exact AV.out hb.2
    · exact L_v.out.apart (by rw [hb]; omega)
  obtain ⟨LR, hLR⟩ : ∃ L, (digs (val xs0 % val xs1)).length = L := ⟨_, rfl⟩
  have S_s := hid R_s.out.sl
  rw [hLR] at S_s L_v ⊢
  clear hLS htS hbs hap AV R_q R_s SP_q SP_s HU FV K zK z01 z12 z23 hgx hgy hLR
  go_wp2_with fail
  go_loopw [51] (fun i wr => ∃ k : Nat, k ≤ LS ∧ i = .int .i64 k ∧ Hid (Touch bs W7 wr ∧ Target wr rq LS bs)) (fun i _ => LS - (intOf i).toNat)
  case atStart => exact ⟨0, Nat.zero_le _, rfl, Touch.refl _ _, HTS.out⟩
  case round =>
    obtain ⟨k, hk, rfl, HRS⟩ := hrel
    by_cases hltS : k < LS
    · obtain ⟨e1, ⟨x, hcx⟩, hfx⟩ := HRS.out.2.cell hltS
      subst e1
      go_wp2
      go_roundw
      case rel => exact ⟨k + 1, by omega, by go_num, HRS.out.1.setCell _ _, HRS.out.2.set k 5⟩
      case measure => simp [intOf]; omega
    · obtain ⟨tS, _⟩ := HRS.out
      have HCx2 := hid (HCx.out.touch tS q1.out.1 q1.out.2.2.1)
      have HCy2 := hid (HCy.out.touch tS q1.out.2.1 q1.out.2.2.2)
      have L_a2 := hid (tS.sl L_a.out (L0.out.apart q1.out.2.2.1))
      have L_b2 := hid (tS.sl L_b.out (L1.out.apart q1.out.2.2.1))
      have S_s2 := hid (tS.sl S_s.out AS.out)
      have L_v2 := hid (tS.sl L_v.out AV2.out)
      clear HCx HCy L_a L_b S_s L_v HTS tS HRS
      obtain ⟨WS, hWS⟩ : ∃ WS, WS = wr := ⟨_, rfl⟩
      rw [← hWS] at HCx2 HCy2 L_a2 L_b2 S_s2 L_v2 ⊢
      clear hWS
      go_wp2_with fail
      refine (same_c _ rs rv _ _ _ _ _ S_s2.out L_v2.out).mono ?_
      rintro e wk0 ⟨rfl, nq0, rfl⟩
      have HCx3 := hid (HCx2.out.later (below_drewN' (Below.refl _ _) nq0))
      have HCy3 := hid (HCy2.out.later (below_drewN' (Below.refl _ _) nq0))
      have L_a3 := hid (L_a2.out.below (below_drewN' (Below.refl _ _) nq0))
      have L_b3 := hid (L_b2.out.below (below_drewN' (Below.refl _ _) nq0))
      go_wp2_with fail
      refine (kept_c w _ gx n0 crx xs0 p0 c0 HCx3.out L_a3.out b0).mono ?_
      rintro e wk ⟨rfl, nq, rfl⟩
      have HCy4 := hid (HCy3.out.later (below_drewN' (Below.refl _ _) nq))
      have L_b4 := hid (L_b3.out.below (below_drewN' (Below.refl _ _) nq))
      rw [World.drewN_drewN] at HCy4 L_b4
      go_wp2_with fail
      refine (kept_c W1 _ gy n1 cry xs1 p1 c1 HCy4.out L_b4.out b1).mono ?_
      rintro e wk2 ⟨rfl, nq2, rfl⟩
      go_wp2
      go_ret
      exact ⟨rfl, below_drewN' HCx2.out.below _⟩

set_option maxHeartbeats 8000000 in
theorem quot_zero (w : World) (p0 : Option Addr) (n0 c0 : Nat) (xs0 : List Nat) (p1 : Option Addr) (n1 c1 : Nat) (xs1 : List Nat) (h0 : Sl w p0 n0 c0 xs0) (h1 : Sl w p1 n1 c1 xs1)
    (b0 : c0 ≤ 35184372087808) (b1 : c1 ≤ 35184372087808) (hcmp : val xs1 = 0) :
    Calls Tryd.prog 6 #[.slice p0 n0 c0, .slice p1 n1 c1] w fun e w' => e = .returned (.bool true) ∧ Below w.heap.size w w' := by
  have hn0 : n0 ≤ 35184372087808 := Nat.le_trans h0.cap b0
  have hn1 : n1 ≤ 35184372087808 := Nat.le_trans h1.cap b1
  have L0 := hid h0
  have L1 := hid h1
  have L_a := hid h0
  have L_b := hid h1
  have HCMP := hid hcmp
  clear h0 h1 hcmp
  go_enter Tryd.func6, Tryd.ntmps6
  go_wp2_with fail
  refine (copied_c _ p0 n0 c0 xs0 L_a.out b0).mono ?_
  rintro e W1 ⟨gx, crx, rfl, C1⟩
  have B1 : Below w.heap.size w W1 := C1.below
  replace L_a := hid (L_a.out.below B1)
  replace L_b := hid (L_b.out.below B1)
  have HCx := hid (C1)
  clear B1
  have hgx : gx < W1.heap.size := Copy.lt C1
  have z01 : w.heap.size ≤ W1.heap.size := C1.below.size
  clear C1
  go_wp2_with fail
  refine (copied_c _ p1 n1 c1 xs1 L_b.out b1).mono ?_
  rintro e W2 ⟨gy, cry, rfl, C2⟩
  have B2 : Below W1.heap.size W1 W2 := C2.below
  replace L_a := hid (L_a.out.below B2)
  replace L_b := hid (L_b.out.below B2)
  replace HCx := hid (HCx.out.later B2)
  have HCy := hid (C2)
  clear B2
  have hgy : gy < W2.heap.size := Copy.lt C2
  have z12 : W1.heap.size ≤ W2.heap.size := C2.below.size
  clear C2
  have S_x := hid (HCx.out.sl L0.out.ok L0.out.len)
  have S_y := hid (HCy.out.sl L1.out.ok L1.out.len)
  go_wp2_with fail
  refine (div_zero_s _ _ _ n0 crx n1 cry xs0 xs1 S_x.out S_y.out HCMP.out).mono ?_
  rintro e W3 ⟨rfl, rfl⟩
  go_wp2_with fail
  refine (rdiv_zero _ p0 p1 n0 c0 n1 c1 xs0 xs1 L_a.out L_b.out HCMP.out (by omega)).mono ?_
  rintro e W4 ⟨rfl, A4⟩
  have B4 : Below W3.heap.size W3 W4 := A4
  replace L_a := hid (L_a.out.below B4)
  replace L_b := hid (L_b.out.below B4)
  replace HCx := hid (HCx.out.later B4)
  replace HCy := hid (HCy.out.later B4)
  replace S_x := hid (S_x.out.below B4)
  replace S_y := hid (S_y.out.below B4)
  clear B4
  clear A4
  go_wp2_with fail
  refine (same_c _ none none 0 0 0 0 [] (Sl.none _) (Sl.none _)).mono ?_
  rintro e wq ⟨rfl, nq, rfl⟩
  generalize hW5 : World.drewN W4 nq = W5
  have B5 : Below W4.heap.size W4 W5 := by rw [← hW5]; exact below_drewN' (Below.refl _ _) nq
  replace L_a := hid (L_a.out.below B5)
  replace L_b := hid (L_b.out.below B5)
  replace HCx := hid (HCx.out.later B5)
  replace HCy := hid (HCy.out.later B5)
  replace S_x := hid (S_x.out.below B5)
  replace S_y := hid (S_y.out.below B5)
  clear B5 hW5
  go_wp2_with fail
  refine (same_c _ none none 0 0 0 0 [] (Sl.none _) (Sl.none _)).mono ?_
  rintro e wq ⟨rfl, nq, rfl⟩
  generalize hW6 : World.drewN W5 nq = W6
  have B6 : Below W5.heap.size W5 W6 := by rw [← hW6]; exact below_drewN' (Below.refl _ _) nq
  replace L_a := hid (L_a.out.below B6)
  replace L_b := hid (L_b.out.below B6)
  replace HCx := hid (HCx.out.later B6)
  replace HCy := hid (HCy.out.later B6)
  replace S_x := hid (S_x.out.below B6)
  replace S_y := hid (S_y.out.below B6)
  clear B6 hW6
  clear S_x S_y
  go_wp2_with fail
  refine (awake_c _).mono ?_
  rintro e W7 ⟨rfl, A7⟩
  have B7 : Below W6.heap.size W6 W7 := A7
  replace L_a := hid (L_a.out.below B7)
  replace L_b := hid (L_b.out.below B7)
  replace HCx := hid (HCx.out.later B7)
  replace HCy := hid (HCy.out.later B7)
  clear B7
  clear A7
  go_wp2_with fail
  obtain ⟨WS, hWS⟩ : ∃ WS, WS = W7 := ⟨_, rfl⟩
  rw [← hWS] at HCx HCy L_a L_b ⊢
  clear hWS
  go_loopw [51] (fun i wr => i = .int .i64 0 ∧ wr = WS) (fun _ _ => 0)
  case atStart => exact ⟨rfl, rfl⟩
  case round =>
    obtain ⟨rfl, rfl⟩ := hrel
    have HCx2 := HCx
    have HCy2 := HCy
    have L_a2 := L_a
    have L_b2 := L_b
    go_wp2_with fail
    refine (same_c _ none none 0 0 0 0 [] (Sl.none _) (Sl.none _)).mono ?_
    rintro e wk0 ⟨rfl, nq0, rfl⟩
    have HCx3 := hid (HCx2.out.later (below_drewN' (Below.refl _ _) nq0))
    have HCy3 := hid (HCy2.out.later (below_drewN' (Below.refl _ _) nq0))
    have L_a3 := hid (L_a2.out.below (below_drewN' (Below.refl _ _) nq0))
    have L_b3 := hid (L_b2.out.below (below_drewN' (Below.refl _ _) nq0))
    go_wp2_with fail
    refine (kept_c w _ gx n0 crx xs0 p0 c0 HCx3.out L_a3.out b0).mono ?_
    rintro e wk ⟨rfl, nq, rfl⟩
    have HCy4 := hid (HCy3.out.later (below_drewN' (Below.refl _ _) nq))
    have L_b4 := hid (L_b3.out.below (below_drewN' (Below.refl _ _) nq))
    rw [World.drewN_drewN] at HCy4 L_b4
    go_wp2_with fail
    refine (kept_c W1 _ gy n1 cry xs1 p1 c1 HCy4.out L_b4.out b1).mono ?_
    rintro e wk2 ⟨rfl, nq2, rfl⟩
    go_wp2
    go_ret
    exact ⟨rfl, below_drewN' HCx2.out.below _⟩

theorem quot_walk (w : World) (p0 : Option Addr) (n0 c0 : Nat) (xs0 : List Nat) (p1 : Option Addr) (n1 c1 : Nat) (xs1 : List Nat) (h0 : Sl w p0 n0 c0 xs0) (h1 : Sl w p1 n1 c1 xs1)
    (b0 : c0 ≤ 35184372087808) (b1 : c1 ≤ 35184372087808) :
    Calls Tryd.prog 6 #[.slice p0 n0 c0, .slice p1 n1 c1] w fun e w' => e = .returned (.bool true) ∧ Below w.heap.size w w' := by
  by_cases h : val xs1 = 0
  · exact quot_zero w p0 n0 c0 xs0 p1 n1 c1 xs1 h0 h1 b0 b1 h
  · exact quot_ok w p0 n0 c0 xs0 p1 n1 c1 xs1 h0 h1 b0 b1 h
end Go.Proofs.YtchenimpopphfaaDoor
