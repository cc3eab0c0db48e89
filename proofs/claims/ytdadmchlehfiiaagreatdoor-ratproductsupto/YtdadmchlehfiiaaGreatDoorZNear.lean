/-
  zint.Near, where the rest is a half or more.
-/
import Derived.Test.YtdadmchlehfiiaaGreatDoorZExact
namespace Go.Proofs.YtdadmchlehfiiaaGreatDoor
open Go.RowKit Nt
set_option linter.unusedSimpArgs false
set_option linter.unusedVariables false
set_option maxRecDepth 20000

theorem zof1 (w : World) : Calls Tryz.prog 34 #[.int .i64 1] w fun e w' => ∃ r cr, e = .returned (.agg #[.bool false, .slice r 1 cr]) ∧ Below w.heap.size w w' ∧ Hid (Sl w' r 1 cr [1]) := by
  refine (zof_c w 1 (by omega) (by omega)).mono ?_
  rintro e w' ⟨r, cr, rfl, Z⟩
  have d : digs (1 : Int).natAbs = [1] := digs_small (by decide) (by decide)
  have hs := Z.sl
  rw [d] at hs ⊢
  exact ⟨r, cr, rfl, Z.below, hs⟩
theorem zadd_f (w : World) (s t : Bool) (p q : Option Addr) (n c m d : Nat) (xs ys : List Nat) (A B : Int) (eA : sg s (val xs) = A) (eB : sg t (val ys) = B) (h : Sl w p n c xs) (h' : Sl w q m d ys) (hs : n ≤ 70368744177663) (hs' : m ≤ 70368744177663) :
    Calls Tryz.prog 51 #[.agg #[.bool s, .slice p n c], .agg #[.bool t, .slice q m d]] w fun e w' => ∃ b L D r cr, e = .returned (.agg #[.bool b, .slice r L cr]) ∧ Below w.heap.size w w' ∧ Hid (Sl w' r L cr D) ∧ Hid (Nm b L D (A + B)) ∧ L ≤ n + m + 1 ∧ Hid (∀ b o, r = some ⟨b, o, none⟩ → w.heap.size ≤ b) := by
  refine (zadd_c w s t p q n c m d xs ys h h' hs hs').mono ?_
  rintro e w' ⟨r, cr, rfl, Z⟩
  subst eA eB
  refine ⟨_, _, _, r, cr, rfl, Z.below, Z.sl, Nm.mk' _, ?_, Z.fresh⟩
  refine Nat.le_trans (digs_length_mono (m := val xs + val ys) (by have := sg_abs s (val xs); have := sg_abs t (val ys); omega)) ?_
  exact digs_add_len (Nat.le_trans h.dl (Nat.le_add_right _ _)) (Nat.le_trans h'.dl (Nat.le_add_left _ _))

theorem invS4 {A B C D : Prop} {w w' : World} {g2 : Nat} (h : A ∧ B ∧ C ∧ D ∧ Hid (Inv w w' g2)) : Inv w w' g2 := h.2.2.2.2

set_option maxHeartbeats 4000000 in
theorem znear_up (w : World) (s t : Bool) (p q : Option Addr) (n c m d : Nat) (xs ys : List Nat) (h : Sl w p n c xs) (h' : Sl w q m d ys) (hy : val ys ≠ 0) (hs : n + 1 ≤ 35184372088831) (hs' : m ≤ 35184372088831) (hge : val ys ≤ 2 * (rm (sg s (val xs)) (sg t (val ys))).natAbs) :
    Calls Tryz.prog 32 #[.agg #[.bool s, .slice p n c], .agg #[.bool t, .slice q m d]] w (Fl1 w (fl (sg s (val xs)) (sg t (val ys)) + 1) (n + 3)) := by
  obtain ⟨W, g, hg, hW, a0, a1, e0, e1, _, _, HI⟩ := enter2 w s p n c t q m d
  have FL := hid (zfloor_c W s t p q n c m d xs ys (h.below HI.out.below) (h'.below HI.out.below) hy (by omega) (by omega))
  have HY := hid h'
  obtain ⟨F, hF⟩ : ∃ F, fl (sg s (val xs)) (sg t (val ys)) = F := ⟨_, rfl⟩
  obtain ⟨R, hR⟩ : ∃ R, (rm (sg s (val xs)) (sg t (val ys))) = R := ⟨_, rfl⟩
  unfold Fl2 at FL
  rw [hF, hR] at FL
  rw [hF]
  rw [hR] at hge
  obtain ⟨y, hyy⟩ : ∃ y, val ys = y := ⟨_, rfl⟩
  rw [hyy] at hge
  have HVY := hid hyy
  have hgl := HI.out.lt
  clear h h' hy hF hR hyy
  go_enter Tryz.func32, Tryz.ntmps32
  go_wp2_with fail
  refine FL.out.mono ?_
  rintro e w1 ⟨bq, Lq, Dq, rq, cq, br, Lr, Dr, rr, cr, rfl, C1, Sq, Sr, Nq, Nr, lq, lr, fq, fr⟩
  replace e1 := cell_below e1 C1
  replace HI := hid (HI.out.call C1)
  have C2 := below_alloc w1 (.cells #[.bool bq, .slice rq Lq cq] 24)
  have C3 := below_alloc (w1.alloc (.cells #[.bool bq, .slice rq Lq cq] 24)) (.cells #[.bool br, .slice rr Lr cr] 24)
  have Xq := (box_alloc w1 bq rq Lq cq).below C3
  have Xr := box_alloc (w1.alloc (.cells #[.bool bq, .slice rq Lq cq] 24)) br rr Lr cr
  rw [show (w1.alloc (.cells #[.bool bq, .slice rq Lq cq] 24)).heap.size = w1.heap.size + 1 from by simp] at Xr
  have C23 := C2.trans (C3.mono C2.size)
  obtain ⟨W1, hW1⟩ : ∃ W1, (w1.alloc (.cells #[.bool bq, .slice rq Lq cq] 24)).alloc (.cells #[.bool br, .slice rr Lr cr] 24) = W1 := ⟨_, rfl⟩
  rw [hW1] at Xq Xr C23
  have hlt1 := HI.out.lt
  obtain ⟨gq, hgq⟩ : ∃ gq, w1.heap.size = gq := ⟨_, rfl⟩
  rw [hgq] at Xq Xr
  replace e1 := cell_below e1 C23
  replace HI := hid (HI.out.call C23)
  replace Sq := hid (Sq.out.below C23)
  replace Sr := hid (Sr.out.below C23)
  have x0 := Xq.at0
  have x1 := Xq.at1
  have z1 := Xr.at1
  have HXq := hid Xq
  have vr : Hid (val Dr = R.natAbs) := by rw [Nr.out.dgs, val_digs]; rfl
  clear C1 C2 C3 C23 Xq Xr hW a0 a1 e0 FL
  go_wp2
  go_region_held3 (fun w' => w'.cell? ⟨gq, 0, none⟩ = some (.bool bq) ∧ w'.cell? ⟨gq, 1, none⟩ = some (.slice rq Lq cq) ∧ w'.cell? ⟨g + 1, 1, none⟩ = some (.slice q m d) ∧ w'.cell? ⟨gq + 1, 1, none⟩ = some (.slice rr Lr cr) ∧ Hid (Inv w w' (g + 1 + 1)))
    (first | (with_reducible exact keepS (by assumption) hBz) | (exact ⟨x0, x1, e1, z1, HI.out.drew⟩) | fail)
    (first | (go_at_call 50; refine (add_c _ rr rr Lr cr Lr cr Dr Dr (Sr.out.below (Below.refl _ _).drew) (Sr.out.below (Below.refl _ _).drew) (by omega) (by omega)).mono ?_; rintro e wa ⟨r2, k2, rfl, R2⟩; have hBz := R2.below; have H2 := hid R2.sl; have HBa := hid hBz)
           | (go_at_call 49; refine (cmp_s _ r2 q _ k2 m d (digs (val Dr + val Dr)) ys H2.out (HY.out.below (invS4 (w := w) (g2 := g + 1 + 1) (by assumption)).below)).mono ?_; rintro e wb ⟨rfl, nq, rfl⟩; have hBz := below_drewN' (Below.refl wa.heap.size wa) nq; have HS := hid (keepS (w := w) (g2 := g + 1 + 1) (by assumption) hBz); have HBb := hid hBz))
  have hcm : 0 ≤ cmpN (val (digs (val Dr + val Dr))) (val ys) := by
    rw [val_digs, vr.out, HVY.out]
    unfold cmpN
    split
    · omega
    · split <;> omega
  obtain ⟨y0, y1, _, _, HI2⟩ := HS.out
  have Sq2 := hid (((Sq.out.below (Below.refl _ _).drew).below HBa.out).below HBb.out)
  have HXq2 := hid (((HXq.out.below (Below.refl _ _).drew).below HBa.out).below HBb.out)
  have hw1 : W1.heap.size ≤ (wa.drewN nq).heap.size := HBa.out.size
  have hsW : W1.heap.size = gq + 2 := by rw [← hW1]; simp; omega
  generalize hwz : wa.drewN nq = wz at *
  clear HS HBa HBb HXq Sq Sr x0 x1 e1 z1 HI H2 hW1
  go_wp2
  clear hcm
  go_region_with (first | (go_at_call 34; refine (zof1 _).mono ?_; rintro e wo ⟨ro, ko, rfl, hBo, So⟩; have p0 := cell_below (w := wz.drew) y0 hBo; have p1 := cell_below (w := wz.drew) y1 hBo; have Sq3 := hid ((Sq2.out.below (Below.refl _ _).drew).below hBo); have HIo := hid (HI2.out.drew.call hBo); have HXo := hid ((HXq2.out.below (Below.refl _ _).drew).below hBo); have hso := hBo.size; (try simp at hso))
                        | (go_at_call 51; refine (zadd_f _ bq false rq ro Lq cq 1 ko Dq [1] F 1 Nq.out.sg rfl Sq3.out So.out (by omega) (by omega)).mono ?_; rintro e wp ⟨b5, L5, D5, r5, k5, rfl, hB5, S5, N5, l5, f5⟩; have HIp := hid (HIo.out.call hB5); have hx5 := HXo.out.below hB5; have j0 := hx5.at0; have j1 := hx5.at1; have j2 := hx5.frozen 0; have j3 := hx5.frozen 1; obtain ⟨b6, r6, n6, c6, hx6⟩ := HIp.out.box; have i0 := hx6.at0; have i1 := hx6.at1; have i2 := hx6.frozen 0; have i3 := hx6.frozen 1))
  all_goals
    have v1 : gq ≠ g + 1 + 1 := by omega
    have v2 : g + 1 + 1 ≠ gq := by omega
    have hq6 := boxFar (v0 := .bool b5) (v1 := .slice r5 L5 k5) hx6 v2
    have hq5 := hx5.set b5 r5 L5 k5
    have j4 := hq5.at0
    have j5 := hq5.at1
    have i4 := hq6.at0
    have i5 := hq6.at1
    have i6 := hq6.frozen 0
    have i7 := hq6.frozen 1
    go_wp2
    have hc := hq6.set b5 r5 L5 k5
    have hc0 := hc.at0
    have hc1 := hc.at1
    refine bodyPost_ret (by simp [results, Tryz.results32, go_sem, hc0, hc1]; try rfl) rfl ?_
    refine ⟨b5, L5, D5, r5, k5, rfl, ?_, sl_set (sl_set S5.out (fun b o e => by have := f5.out b o e; omega)) (fun b o e => by have := f5.out b o e; omega), N5, by omega, fun b o e => by have := f5.out b o e; omega⟩
    have va : w.heap.size ≤ gq := by omega
    have vb : w.heap.size ≤ g + 1 + 1 := by omega
    exact (((HIp.out.below.setCell va _).setCell va _).setCell vb _).setCell vb _
end Go.Proofs.YtdadmchlehfiiaaGreatDoor
