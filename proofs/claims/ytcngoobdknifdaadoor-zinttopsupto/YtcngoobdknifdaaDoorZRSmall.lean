/-
  Small: a number as an int64, the document's.
-/
import Derived.Test.YtcngoobdknifdaaDoorZSmall
namespace Go.Proofs.YtcngoobdknifdaaDoor
open Go.RowKit Nt
set_option linter.unusedSimpArgs false
set_option linter.unusedVariables false

theorem keep2b {w w1 w2 : World} {a1 a2 : Addr} {v1 v2 : Value}
    (h : w1.cell? a1 = some v1 ∧ w1.cell? a2 = some v2 ∧ Hid (Below w.heap.size w w1)) (hb : Below w1.heap.size w1 w2) :
    w2.cell? a1 = some v1 ∧ w2.cell? a2 = some v2 ∧ Hid (Below w.heap.size w w2) :=
  ⟨cell_below h.1 hb, cell_below h.2.1 hb, Below.trans h.2.2 (hb.mono (Below.size h.2.2))⟩
theorem bel2b {A B : Prop} {w w' : World} (h : A ∧ B ∧ Hid (Below w.heap.size w w')) : Below w.heap.size w w' := h.2.2

theorem ref_const (w : World) (x : Int) (h1 : -9223372036854775808 ≤ x) (h2 : x < 9223372036854775808) :
    ∃ (b : Bool) (L : Nat) (D : List Nat), L ≤ 2 ∧ Ok D ∧ D.length = L ∧ sg b (val D) = x ∧
      ∀ W', Calls Tryd.prog 47 #[.int .i64 x] W' fun e w' => ∃ r cr, e = .returned (.agg #[.bool b, .slice r L cr]) ∧ Below W'.heap.size W' w' ∧ Sl w' r L cr D := by
  refine ⟨ng x, (digs x.natAbs).length, digs x.natAbs, digs_length_le (by omega), ok_digs _, rfl, by rw [val_digs, sg_sign], ?_⟩
  intro W'
  refine (zrof_c W' x h1 h2).mono ?_
  rintro e w' ⟨r, cr, rfl, Z⟩
  exact ⟨r, cr, rfl, Z.below, Z.sl⟩

theorem low_wrap (V : Nat) (h : V ≤ 9223372036854775808) : wrap64 (IntKind.u64.wrap (-(V : Int))) = -(V : Int) := by
  simp only [wrap64, IntKind.wrap_i64, IntKind.wrap_u64]
  omega

set_option maxHeartbeats 4000000 in
theorem zrsmall_c (w : World) (s : Bool) (p : Option Addr) (n c : Nat) (xs : List Nat) (h : Sl w p n c xs) (hs : n ≤ 35184372088831) :
    Calls Tryd.prog 26 #[.agg #[.bool s, .slice p n c]] w fun e w' => e = .returned (.tuple #[.int .i64 (smV (sg s (val xs))), .bool (smK (sg s (val xs)))]) ∧ Below w.heap.size w w' := by
  obtain ⟨W, g, hg, hW, c10, c11, HB⟩ := enter1b w s p n c
  obtain ⟨b1, L1, D1, hL1, ok1, len1, e1, OF1⟩ := ref_const w (-9223372036854775808) (by omega) (by omega)
  obtain ⟨b2, L2, D2, hL2, ok2, len2, e2, OF2⟩ := ref_const w 9223372036854775807 (by omega) (by omega)
  have CM1 : Hid (∀ W' r cr, Below w.heap.size w W' → Sl W' r L1 cr D1 → Calls Tryd.prog 49 #[.agg #[.bool s, .slice p n c], .agg #[.bool b1, .slice r L1 cr]] W' fun e w' => e = .returned (.int .i64 (sg s (val xs) - -9223372036854775808).sign) ∧ Below W'.heap.size W' w') := fun W' r cr hb hr => by
    have := zrcmp_c W' s b1 p r n c L1 cr xs D1 (h.below hb) hr hs (by omega)
    rwa [e1] at this
  have CM2 : Hid (∀ W' r cr, Below w.heap.size w W' → Sl W' r L2 cr D2 → Calls Tryd.prog 49 #[.agg #[.bool s, .slice p n c], .agg #[.bool b2, .slice r L2 cr]] W' fun e w' => e = .returned (.int .i64 (sg s (val xs) - 9223372036854775807).sign) ∧ Below W'.heap.size W' w') := fun W' r cr hb hr => by
    have := zrcmp_c W' s b2 p r n c L2 cr xs D2 (h.below hb) hr hs (by omega)
    rwa [e2] at this
  have NM : Hid (∀ W', Below w.heap.size w W' → Calls Tryd.prog 36 #[.slice p n c] W' fun e w' => ∃ r cr, e = .returned (.slice r (digs (val xs)).length cr) ∧ Ans W' w' r cr (val xs)) := fun W' hb => rnorm_c W' p n c xs (h.below hb) (by omega)
  obtain ⟨V, hV⟩ : ∃ V, val xs = V := ⟨_, rfl⟩
  rw [hV] at CM1 CM2 NM ⊢
  obtain ⟨z, hz⟩ : ∃ z, sg s V = z := ⟨_, rfl⟩
  have hza := sg_abs s V
  rw [hz] at CM1 CM2 hza ⊢
  have q1 : Hid ((z - -9223372036854775808).sign < 0 ↔ z < -9223372036854775808) := by rw [Int.sign_neg_iff]; unfold Hid; omega
  have q2 : Hid (0 < (z - 9223372036854775807).sign ↔ 9223372036854775807 < z) := by rw [Int.sign_pos_iff]; unfold Hid; omega
  have r1 := sign_range (z - -9223372036854775808)
  have r2 := sign_range (z - 9223372036854775807)
  obtain ⟨k1, hk1⟩ : ∃ k, (z - -9223372036854775808).sign = k := ⟨_, rfl⟩
  obtain ⟨k2, hk2⟩ : ∃ k, (z - 9223372036854775807).sign = k := ⟨_, rfl⟩
  rw [hk1] at CM1 q1 r1
  rw [hk2] at CM2 q2 r2
  have HO1 := hid OF1
  have HO2 := hid OF2
  clear h OF1 OF2 hk1 hk2 hV e1 e2 ok1 ok2
  have tail : ∀ (v : Int) (k : Bool), smV z = v → smK z = k → Calls Tryd.prog 26 #[.agg #[.bool s, .slice p n c]] w fun e w' => e = .returned (.tuple #[.int .i64 v, .bool k]) ∧ Below w.heap.size w w' := by
    intro v k hv hk
    have hc1 : k1 = -1 ∨ k1 = 0 ∨ k1 = 1 := by omega
    have hc2 : k2 = -1 ∨ k2 = 0 ∨ k2 = 1 := by omega
    rcases hc1 with h1 | h1 | h1
    · subst h1
      obtain ⟨u1, u2⟩ := sm_no (z := z) (Or.inl (q1.out.1 (by omega)))
      obtain rfl : k = false := hk.symm.trans u1
      obtain rfl : v = 0 := hv.symm.trans u2
      clear hv hk u1 u2 CM2 NM HO2 q1 q2 r2
      go_enter Tryd.func26, Tryd.ntmps26
      go_wp2
      go_region_with (first | (go_at_call 47; refine (HO1.out _).mono ?_; clear HO1; rintro e w1 ⟨ra, ca, rfl, hBz, hZ1⟩; have HZ1 := hid hZ1; have d10 := cell_below (w := W.drew) c10 hBz; have d11 := cell_below (w := W.drew) c11 hBz; have HF1 := hid (HB.out.drew.trans (hBz.mono HB.out.size)))
                              | (go_at_call 49; refine (CM1.out _ ra ca HF1.out HZ1.out).mono ?_; rintro e w2 ⟨rfl, hBz⟩; have HF2 := hid (HF1.out.trans (hBz.mono HF1.out.size))))
      all_goals
        go_wp2
        go_ret2
        first | exact ⟨rfl, HF2.out⟩ | exact ⟨rfl, by rw [← hg]; exact HF2.out⟩
    · subst h1
      have hz1 : ¬ z < -9223372036854775808 := fun e => by have := q1.out.2 e; omega
      rcases hc2 with h2 | h2 | h2
      · subst h2
        have hz2 : ¬ 9223372036854775807 < z := fun e => by have := q2.out.2 e; omega
        obtain ⟨u1, u2⟩ := sm_yes (z := z) (by omega) (by omega)
        obtain rfl : k = true := hk.symm.trans u1
        have q3 : v = z := hv.symm.trans u2
        clear hv hk u1 u2 q1 q2
        go_enter Tryd.func26, Tryd.ntmps26
        go_wp2
        go_region_held3 (fun w' => w'.cell? ⟨g, 0, none⟩ = some (.bool s) ∧ w'.cell? ⟨g, 1, none⟩ = some (.slice p n c) ∧ Hid (Below w.heap.size w w'))
          (first | (with_reducible exact keep2b (by assumption) hBz) | (exact ⟨c10, c11, HB.out.drew⟩) | fail)
          (first | (go_at_call 47; refine (HO1.out _).mono ?_; clear HO1; rintro e w1 ⟨ra, ca, rfl, hBz, hZ1⟩; have HZ1 := hid hZ1)
                 | (go_at_call_of 49 (Value.slice ra L1 ca); refine (CM1.out _ ra ca (bel2b (by assumption)) HZ1.out).mono ?_; rintro e w2 ⟨rfl, hBz⟩; have HS := hid (keep2b (w := w) (by assumption) hBz))
                 | (go_at_call 47; refine (HO2.out _).mono ?_; rintro e w3 ⟨rb, cb, rfl, hBz, hZ2⟩; have HZ2 := hid hZ2)
                 | (go_at_call_of 49 (Value.slice rb L2 cb); refine (CM2.out _ rb cb (bel2b (by assumption)) HZ2.out).mono ?_; rintro e w4 ⟨rfl, hBz⟩; have HT := hid (keep2b (w := w) (by assumption) hBz)))
        obtain ⟨f10, f11, HF⟩ := HT.out
        have NZ := hid (NM.out w4 HF.out)
        clear c10 c11 HB CM1 CM2 HO2 NM
        go_wp2_with fail
        refine NZ.out.mono ?_
        rintro e w5 ⟨r, cr, rfl, A⟩
        have g10 := cell_below f10 A.below
        have HD := hid A.sl
        have HG := hid (HF.out.trans (A.below.mono HF.out.size))
        clear f10 f11 NZ A HS HT HF
        obtain ⟨L, hL⟩ : ∃ L, (digs V).length = L := ⟨_, rfl⟩
        have hl2 : L ≤ 2 := by rw [← hL]; exact digs_length_le (by omega)
        rw [hL] at HD ⊢
        have HDV := hid (val_digs V)
        have HOK := hid (ok_digs V)
        generalize digs V = D at *
        go_wp2
        go_loop [5, 6] (fun v i => ∃ y : Nat, v = .int .u64 y ∧ ((i = .int .i64 (-1) ∧ Hid (y = val D)) ∨ ∃ j : Nat, j < L ∧ i = .int .i64 j ∧ Hid (y = val (D.drop (j + 1))))) (fun _ i => (intOf i + 1).toNat)
        case atStart =>
          refine ⟨0, rfl, ?_⟩
          by_cases h0 : L = 0
          · subst h0
            refine Or.inl ⟨rfl, ?_⟩
            have e := HD.out.len
            rw [List.length_eq_zero_iff.1 e]
            rfl
          · refine Or.inr ⟨L - 1, by omega, ?_, ?_⟩
            · congr 1; omega
            · rw [show L - 1 + 1 = L by omega, List.drop_of_length_le (by rw [HD.out.len]; exact Nat.le_refl _)]
              rfl
        case round =>
          obtain ⟨y, rfl, ⟨rfl, HY⟩ | ⟨j, hj, rfl, HY⟩⟩ := hrel
          · obtain rfl : y = V := by rw [HY.out, HDV.out]
            clear HY
            cases s with
            | false =>
              have hy1 : y < 9223372036854775808 := by have := hz; unfold sg at this; simp only [Bool.false_eq_true, if_false] at this; omega
              have q4 : v = (y : Int) := by rw [q3, ← hz]; rfl
              subst q4
              clear q3 hz
              go_wp2
              go_ret2
              first | exact ⟨rfl, HG.out⟩ | exact ⟨rfl, by rw [← hg]; exact HG.out⟩
            | true =>
              have hy1 : y ≤ 9223372036854775808 := by have := hz; unfold sg at this; simp only [if_true] at this; omega
              have q4 : v = -(y : Int) := by rw [q3, ← hz]; rfl
              subst q4
              have lw := low_wrap y hy1
              clear q3 hz
              go_wp2
              go_ret2
              first | exact ⟨rfl, HG.out⟩ | exact ⟨rfl, by rw [← hg]; exact HG.out⟩
          · obtain ⟨b, o, rfl, hcell⟩ := HD.out.lie j (by rw [HD.out.len]; exact hj)
            obtain ⟨x, hx⟩ : ∃ x, D.getD j 0 = x := ⟨_, rfl⟩
            rw [hx] at hcell
            have hxb : x < 4294967296 := by rw [← hx]; exact HOK.out.getD j
            have hyb : y < 4294967296 := by
              rw [HY.out]
              have h1 := val_lt (HOK.out.drop (j + 1))
              have h2 : (D.drop (j + 1)).length ≤ 1 := by simp [HD.out.len]; omega
              have h3 : 4294967296 ^ (D.drop (j + 1)).length ≤ 4294967296 ^ 1 := Nat.pow_le_pow_right (by omega) h2
              omega
            have hst : Hid (y * 4294967296 + x = val (D.drop j)) := by
              have e := drop_cons D j (by rw [HD.out.len]; exact hj)
              rw [e, hx]
              show _ = x + 4294967296 * val (D.drop (j + 1))
              rw [← HY.out]
              omega
            clear hx
            go_wp2
            go_round
            case rel =>
              refine ⟨y * 4294967296 + x, ?_, ?_⟩
              · congr 1
              · by_cases hj0 : j = 0
                · subst hj0
                  exact Or.inl ⟨rfl, hst.out⟩
                · refine Or.inr ⟨j - 1, by omega, ?_, ?_⟩
                  · congr 1; omega
                  · rw [show j - 1 + 1 = j by omega]; exact hst.out
            case measure => simp [intOf]
      · subst h2
        have hz2 : ¬ 9223372036854775807 < z := fun e => by have := q2.out.2 e; omega
        obtain ⟨u1, u2⟩ := sm_yes (z := z) (by omega) (by omega)
        obtain rfl : k = true := hk.symm.trans u1
        have q3 : v = z := hv.symm.trans u2
        clear hv hk u1 u2 q1 q2
        go_enter Tryd.func26, Tryd.ntmps26
        go_wp2
        go_region_held3 (fun w' => w'.cell? ⟨g, 0, none⟩ = some (.bool s) ∧ w'.cell? ⟨g, 1, none⟩ = some (.slice p n c) ∧ Hid (Below w.heap.size w w'))
          (first | (with_reducible exact keep2b (by assumption) hBz) | (exact ⟨c10, c11, HB.out.drew⟩) | fail)
          (first | (go_at_call 47; refine (HO1.out _).mono ?_; clear HO1; rintro e w1 ⟨ra, ca, rfl, hBz, hZ1⟩; have HZ1 := hid hZ1)
                 | (go_at_call_of 49 (Value.slice ra L1 ca); refine (CM1.out _ ra ca (bel2b (by assumption)) HZ1.out).mono ?_; rintro e w2 ⟨rfl, hBz⟩; have HS := hid (keep2b (w := w) (by assumption) hBz))
                 | (go_at_call 47; refine (HO2.out _).mono ?_; rintro e w3 ⟨rb, cb, rfl, hBz, hZ2⟩; have HZ2 := hid hZ2)
                 | (go_at_call_of 49 (Value.slice rb L2 cb); refine (CM2.out _ rb cb (bel2b (by assumption)) HZ2.out).mono ?_; rintro e w4 ⟨rfl, hBz⟩; have HT := hid (keep2b (w := w) (by assumption) hBz)))
        obtain ⟨f10, f11, HF⟩ := HT.out
        have NZ := hid (NM.out w4 HF.out)
        clear c10 c11 HB CM1 CM2 HO2 NM
        go_wp2_with fail
        refine NZ.out.mono ?_
        rintro e w5 ⟨r, cr, rfl, A⟩
        have g10 := cell_below f10 A.below
        have HD := hid A.sl
        have HG := hid (HF.out.trans (A.below.mono HF.out.size))
        clear f10 f11 NZ A HS HT HF
        obtain ⟨L, hL⟩ : ∃ L, (digs V).length = L := ⟨_, rfl⟩
        have hl2 : L ≤ 2 := by rw [← hL]; exact digs_length_le (by omega)
        rw [hL] at HD ⊢
        have HDV := hid (val_digs V)
        have HOK := hid (ok_digs V)
        generalize digs V = D at *
        go_wp2
        go_loop [5, 6] (fun v i => ∃ y : Nat, v = .int .u64 y ∧ ((i = .int .i64 (-1) ∧ Hid (y = val D)) ∨ ∃ j : Nat, j < L ∧ i = .int .i64 j ∧ Hid (y = val (D.drop (j + 1))))) (fun _ i => (intOf i + 1).toNat)
        case atStart =>
          refine ⟨0, rfl, ?_⟩
          by_cases h0 : L = 0
          · subst h0
            refine Or.inl ⟨rfl, ?_⟩
            have e := HD.out.len
            rw [List.length_eq_zero_iff.1 e]
            rfl
          · refine Or.inr ⟨L - 1, by omega, ?_, ?_⟩
            · congr 1; omega
            · rw [show L - 1 + 1 = L by omega, List.drop_of_length_le (by rw [HD.out.len]; exact Nat.le_refl _)]
              rfl
        case round =>
          obtain ⟨y, rfl, ⟨rfl, HY⟩ | ⟨j, hj, rfl, HY⟩⟩ := hrel
          · obtain rfl : y = V := by rw [HY.out, HDV.out]
            clear HY
            cases s with
            | false =>
              have hy1 : y < 9223372036854775808 := by have := hz; unfold sg at this; simp only [Bool.false_eq_true, if_false] at this; omega
              have q4 : v = (y : Int) := by rw [q3, ← hz]; rfl
              subst q4
              clear q3 hz
              go_wp2
              go_ret2
              first | exact ⟨rfl, HG.out⟩ | exact ⟨rfl, by rw [← hg]; exact HG.out⟩
            | true =>
              have hy1 : y ≤ 9223372036854775808 := by have := hz; unfold sg at this; simp only [if_true] at this; omega
              have q4 : v = -(y : Int) := by rw [q3, ← hz]; rfl
              subst q4
              have lw := low_wrap y hy1
              clear q3 hz
              go_wp2
              go_ret2
              first | exact ⟨rfl, HG.out⟩ | exact ⟨rfl, by rw [← hg]; exact HG.out⟩
          · obtain ⟨b, o, rfl, hcell⟩ := HD.out.lie j (by rw [HD.out.len]; exact hj)
            obtain ⟨x, hx⟩ : ∃ x, D.getD j 0 = x := ⟨_, rfl⟩
            rw [hx] at hcell
            have hxb : x < 4294967296 := by rw [← hx]; exact HOK.out.getD j
            have hyb : y < 4294967296 := by
              rw [HY.out]
              have h1 := val_lt (HOK.out.drop (j + 1))
              have h2 : (D.drop (j + 1)).length ≤ 1 := by simp [HD.out.len]; omega
              have h3 : 4294967296 ^ (D.drop (j + 1)).length ≤ 4294967296 ^ 1 := Nat.pow_le_pow_right (by omega) h2
              omega
            have hst : Hid (y * 4294967296 + x = val (D.drop j)) := by
              have e := drop_cons D j (by rw [HD.out.len]; exact hj)
              rw [e, hx]
              show _ = x + 4294967296 * val (D.drop (j + 1))
              rw [← HY.out]
              omega
            clear hx
            go_wp2
            go_round
            case rel =>
              refine ⟨y * 4294967296 + x, ?_, ?_⟩
              · congr 1
              · by_cases hj0 : j = 0
                · subst hj0
                  exact Or.inl ⟨rfl, hst.out⟩
                · refine Or.inr ⟨j - 1, by omega, ?_, ?_⟩
                  · congr 1; omega
                  · rw [show j - 1 + 1 = j by omega]; exact hst.out
            case measure => simp [intOf]
      · subst h2
        have hz2 : 9223372036854775807 < z := q2.out.1 (by omega)
        obtain ⟨u1, u2⟩ := sm_no (z := z) (by omega)
        obtain rfl : k = false := hk.symm.trans u1
        obtain rfl : v = 0 := hv.symm.trans u2
        clear hv hk u1 u2 NM q1 q2 r2
        go_enter Tryd.func26, Tryd.ntmps26
        go_wp2
        go_region_held3 (fun w' => w'.cell? ⟨g, 0, none⟩ = some (.bool s) ∧ w'.cell? ⟨g, 1, none⟩ = some (.slice p n c) ∧ Hid (Below w.heap.size w w'))
          (first | (with_reducible exact keep2b (by assumption) hBz) | (exact ⟨c10, c11, HB.out.drew⟩) | fail)
          (first | (go_at_call 47; refine (HO1.out _).mono ?_; clear HO1; rintro e w1 ⟨ra, ca, rfl, hBz, hZ1⟩; have HZ1 := hid hZ1)
                 | (go_at_call_of 49 (Value.slice ra L1 ca); refine (CM1.out _ ra ca (bel2b (by assumption)) HZ1.out).mono ?_; rintro e w2 ⟨rfl, hBz⟩; have HS := hid (keep2b (w := w) (by assumption) hBz))
                 | (go_at_call 47; refine (HO2.out _).mono ?_; rintro e w3 ⟨rb, cb, rfl, hBz, hZ2⟩; have HZ2 := hid hZ2)
                 | (go_at_call_of 49 (Value.slice rb L2 cb); refine (CM2.out _ rb cb (bel2b (by assumption)) HZ2.out).mono ?_; rintro e w4 ⟨rfl, hBz⟩; have HT := hid (keep2b (w := w) (by assumption) hBz)))
        go_wp2
        go_ret2
        first | exact ⟨rfl, bel2b HT.out⟩ | exact ⟨rfl, by rw [← hg]; exact bel2b HT.out⟩
    · subst h1
      have hz1 : ¬ z < -9223372036854775808 := fun e => by have := q1.out.2 e; omega
      rcases hc2 with h2 | h2 | h2
      · subst h2
        have hz2 : ¬ 9223372036854775807 < z := fun e => by have := q2.out.2 e; omega
        obtain ⟨u1, u2⟩ := sm_yes (z := z) (by omega) (by omega)
        obtain rfl : k = true := hk.symm.trans u1
        have q3 : v = z := hv.symm.trans u2
        clear hv hk u1 u2 q1 q2
        go_enter Tryd.func26, Tryd.ntmps26
        go_wp2
        go_region_held3 (fun w' => w'.cell? ⟨g, 0, none⟩ = some (.bool s) ∧ w'.cell? ⟨g, 1, none⟩ = some (.slice p n c) ∧ Hid (Below w.heap.size w w'))
          (first | (with_reducible exact keep2b (by assumption) hBz) | (exact ⟨c10, c11, HB.out.drew⟩) | fail)
          (first | (go_at_call 47; refine (HO1.out _).mono ?_; clear HO1; rintro e w1 ⟨ra, ca, rfl, hBz, hZ1⟩; have HZ1 := hid hZ1)
                 | (go_at_call_of 49 (Value.slice ra L1 ca); refine (CM1.out _ ra ca (bel2b (by assumption)) HZ1.out).mono ?_; rintro e w2 ⟨rfl, hBz⟩; have HS := hid (keep2b (w := w) (by assumption) hBz))
                 | (go_at_call 47; refine (HO2.out _).mono ?_; rintro e w3 ⟨rb, cb, rfl, hBz, hZ2⟩; have HZ2 := hid hZ2)
                 | (go_at_call_of 49 (Value.slice rb L2 cb); refine (CM2.out _ rb cb (bel2b (by assumption)) HZ2.out).mono ?_; rintro e w4 ⟨rfl, hBz⟩; have HT := hid (keep2b (w := w) (by assumption) hBz)))
        obtain ⟨f10, f11, HF⟩ := HT.out
        have NZ := hid (NM.out w4 HF.out)
        clear c10 c11 HB CM1 CM2 HO2 NM
        go_wp2_with fail
        refine NZ.out.mono ?_
        rintro e w5 ⟨r, cr, rfl, A⟩
        have g10 := cell_below f10 A.below
        have HD := hid A.sl
        have HG := hid (HF.out.trans (A.below.mono HF.out.size))
        clear f10 f11 NZ A HS HT HF
        obtain ⟨L, hL⟩ : ∃ L, (digs V).length = L := ⟨_, rfl⟩
        have hl2 : L ≤ 2 := by rw [← hL]; exact digs_length_le (by omega)
        rw [hL] at HD ⊢
        have HDV := hid (val_digs V)
        have HOK := hid (ok_digs V)
        generalize digs V = D at *
        go_wp2
        go_loop [5, 6] (fun v i => ∃ y : Nat, v = .int .u64 y ∧ ((i = .int .i64 (-1) ∧ Hid (y = val D)) ∨ ∃ j : Nat, j < L ∧ i = .int .i64 j ∧ Hid (y = val (D.drop (j + 1))))) (fun _ i => (intOf i + 1).toNat)
        case atStart =>
          refine ⟨0, rfl, ?_⟩
          by_cases h0 : L = 0
          · subst h0
            refine Or.inl ⟨rfl, ?_⟩
            have e := HD.out.len
            rw [List.length_eq_zero_iff.1 e]
            rfl
          · refine Or.inr ⟨L - 1, by omega, ?_, ?_⟩
            · congr 1; omega
            · rw [show L - 1 + 1 = L by omega, List.drop_of_length_le (by rw [HD.out.len]; exact Nat.le_refl _)]
              rfl
        case round =>
          obtain ⟨y, rfl, ⟨rfl, HY⟩ | ⟨j, hj, rfl, HY⟩⟩ := hrel
          · obtain rfl : y = V := by rw [HY.out, HDV.out]
            clear HY
            cases s with
            | false =>
              have hy1 : y < 9223372036854775808 := by have := hz; unfold sg at this; simp only [Bool.false_eq_true, if_false] at this; omega
              have q4 : v = (y : Int) := by rw [q3, ← hz]; rfl
              subst q4
              clear q3 hz
              go_wp2
              go_ret2
              first | exact ⟨rfl, HG.out⟩ | exact ⟨rfl, by rw [← hg]; exact HG.out⟩
            | true =>
              have hy1 : y ≤ 9223372036854775808 := by have := hz; unfold sg at this; simp only [if_true] at this; omega
              have q4 : v = -(y : Int) := by rw [q3, ← hz]; rfl
              subst q4
              have lw := low_wrap y hy1
              clear q3 hz
              go_wp2
              go_ret2
              first | exact ⟨rfl, HG.out⟩ | exact ⟨rfl, by rw [← hg]; exact HG.out⟩
          · obtain ⟨b, o, rfl, hcell⟩ := HD.out.lie j (by rw [HD.out.len]; exact hj)
            obtain ⟨x, hx⟩ : ∃ x, D.getD j 0 = x := ⟨_, rfl⟩
            rw [hx] at hcell
            have hxb : x < 4294967296 := by rw [← hx]; exact HOK.out.getD j
            have hyb : y < 4294967296 := by
              rw [HY.out]
              have h1 := val_lt (HOK.out.drop (j + 1))
              have h2 : (D.drop (j + 1)).length ≤ 1 := by simp [HD.out.len]; omega
              have h3 : 4294967296 ^ (D.drop (j + 1)).length ≤ 4294967296 ^ 1 := Nat.pow_le_pow_right (by omega) h2
              omega
            have hst : Hid (y * 4294967296 + x = val (D.drop j)) := by
              have e := drop_cons D j (by rw [HD.out.len]; exact hj)
              rw [e, hx]
              show _ = x + 4294967296 * val (D.drop (j + 1))
              rw [← HY.out]
              omega
            clear hx
            go_wp2
            go_round
            case rel =>
              refine ⟨y * 4294967296 + x, ?_, ?_⟩
              · congr 1
              · by_cases hj0 : j = 0
                · subst hj0
                  exact Or.inl ⟨rfl, hst.out⟩
                · refine Or.inr ⟨j - 1, by omega, ?_, ?_⟩
                  · congr 1; omega
                  · rw [show j - 1 + 1 = j by omega]; exact hst.out
            case measure => simp [intOf]
      · subst h2
        have hz2 : ¬ 9223372036854775807 < z := fun e => by have := q2.out.2 e; omega
        obtain ⟨u1, u2⟩ := sm_yes (z := z) (by omega) (by omega)
        obtain rfl : k = true := hk.symm.trans u1
        have q3 : v = z := hv.symm.trans u2
        clear hv hk u1 u2 q1 q2
        go_enter Tryd.func26, Tryd.ntmps26
        go_wp2
        go_region_held3 (fun w' => w'.cell? ⟨g, 0, none⟩ = some (.bool s) ∧ w'.cell? ⟨g, 1, none⟩ = some (.slice p n c) ∧ Hid (Below w.heap.size w w'))
          (first | (with_reducible exact keep2b (by assumption) hBz) | (exact ⟨c10, c11, HB.out.drew⟩) | fail)
          (first | (go_at_call 47; refine (HO1.out _).mono ?_; clear HO1; rintro e w1 ⟨ra, ca, rfl, hBz, hZ1⟩; have HZ1 := hid hZ1)
                 | (go_at_call_of 49 (Value.slice ra L1 ca); refine (CM1.out _ ra ca (bel2b (by assumption)) HZ1.out).mono ?_; rintro e w2 ⟨rfl, hBz⟩; have HS := hid (keep2b (w := w) (by assumption) hBz))
                 | (go_at_call 47; refine (HO2.out _).mono ?_; rintro e w3 ⟨rb, cb, rfl, hBz, hZ2⟩; have HZ2 := hid hZ2)
                 | (go_at_call_of 49 (Value.slice rb L2 cb); refine (CM2.out _ rb cb (bel2b (by assumption)) HZ2.out).mono ?_; rintro e w4 ⟨rfl, hBz⟩; have HT := hid (keep2b (w := w) (by assumption) hBz)))
        obtain ⟨f10, f11, HF⟩ := HT.out
        have NZ := hid (NM.out w4 HF.out)
        clear c10 c11 HB CM1 CM2 HO2 NM
        go_wp2_with fail
        refine NZ.out.mono ?_
        rintro e w5 ⟨r, cr, rfl, A⟩
        have g10 := cell_below f10 A.below
        have HD := hid A.sl
        have HG := hid (HF.out.trans (A.below.mono HF.out.size))
        clear f10 f11 NZ A HS HT HF
        obtain ⟨L, hL⟩ : ∃ L, (digs V).length = L := ⟨_, rfl⟩
        have hl2 : L ≤ 2 := by rw [← hL]; exact digs_length_le (by omega)
        rw [hL] at HD ⊢
        have HDV := hid (val_digs V)
        have HOK := hid (ok_digs V)
        generalize digs V = D at *
        go_wp2
        go_loop [5, 6] (fun v i => ∃ y : Nat, v = .int .u64 y ∧ ((i = .int .i64 (-1) ∧ Hid (y = val D)) ∨ ∃ j : Nat, j < L ∧ i = .int .i64 j ∧ Hid (y = val (D.drop (j + 1))))) (fun _ i => (intOf i + 1).toNat)
        case atStart =>
          refine ⟨0, rfl, ?_⟩
          by_cases h0 : L = 0
          · subst h0
            refine Or.inl ⟨rfl, ?_⟩
            have e := HD.out.len
            rw [List.length_eq_zero_iff.1 e]
            rfl
          · refine Or.inr ⟨L - 1, by omega, ?_, ?_⟩
            · congr 1; omega
            · rw [show L - 1 + 1 = L by omega, List.drop_of_length_le (by rw [HD.out.len]; exact Nat.le_refl _)]
              rfl
        case round =>
          obtain ⟨y, rfl, ⟨rfl, HY⟩ | ⟨j, hj, rfl, HY⟩⟩ := hrel
          · obtain rfl : y = V := by rw [HY.out, HDV.out]
            clear HY
            cases s with
            | false =>
              have hy1 : y < 9223372036854775808 := by have := hz; unfold sg at this; simp only [Bool.false_eq_true, if_false] at this; omega
              have q4 : v = (y : Int) := by rw [q3, ← hz]; rfl
              subst q4
              clear q3 hz
              go_wp2
              go_ret2
              first | exact ⟨rfl, HG.out⟩ | exact ⟨rfl, by rw [← hg]; exact HG.out⟩
            | true =>
              have hy1 : y ≤ 9223372036854775808 := by have := hz; unfold sg at this; simp only [if_true] at this; omega
              have q4 : v = -(y : Int) := by rw [q3, ← hz]; rfl
              subst q4
              have lw := low_wrap y hy1
              clear q3 hz
              go_wp2
              go_ret2
              first | exact ⟨rfl, HG.out⟩ | exact ⟨rfl, by rw [← hg]; exact HG.out⟩
          · obtain ⟨b, o, rfl, hcell⟩ := HD.out.lie j (by rw [HD.out.len]; exact hj)
            obtain ⟨x, hx⟩ : ∃ x, D.getD j 0 = x := ⟨_, rfl⟩
            rw [hx] at hcell
            have hxb : x < 4294967296 := by rw [← hx]; exact HOK.out.getD j
            have hyb : y < 4294967296 := by
              rw [HY.out]
              have h1 := val_lt (HOK.out.drop (j + 1))
              have h2 : (D.drop (j + 1)).length ≤ 1 := by simp [HD.out.len]; omega
              have h3 : 4294967296 ^ (D.drop (j + 1)).length ≤ 4294967296 ^ 1 := Nat.pow_le_pow_right (by omega) h2
              omega
            have hst : Hid (y * 4294967296 + x = val (D.drop j)) := by
              have e := drop_cons D j (by rw [HD.out.len]; exact hj)
              rw [e, hx]
              show _ = x + 4294967296 * val (D.drop (j + 1))
              rw [← HY.out]
              omega
            clear hx
            go_wp2
            go_round
            case rel =>
              refine ⟨y * 4294967296 + x, ?_, ?_⟩
              · congr 1
              · by_cases hj0 : j = 0
                · subst hj0
                  exact Or.inl ⟨rfl, hst.out⟩
                · refine Or.inr ⟨j - 1, by omega, ?_, ?_⟩
                  · congr 1; omega
                  · rw [show j - 1 + 1 = j by omega]; exact hst.out
            case measure => simp [intOf]
      · subst h2
        have hz2 : 9223372036854775807 < z := q2.out.1 (by omega)
        obtain ⟨u1, u2⟩ := sm_no (z := z) (by omega)
        obtain rfl : k = false := hk.symm.trans u1
        obtain rfl : v = 0 := hv.symm.trans u2
        clear hv hk u1 u2 NM q1 q2 r2
        go_enter Tryd.func26, Tryd.ntmps26
        go_wp2
        go_region_held3 (fun w' => w'.cell? ⟨g, 0, none⟩ = some (.bool s) ∧ w'.cell? ⟨g, 1, none⟩ = some (.slice p n c) ∧ Hid (Below w.heap.size w w'))
          (first | (with_reducible exact keep2b (by assumption) hBz) | (exact ⟨c10, c11, HB.out.drew⟩) | fail)
          (first | (go_at_call 47; refine (HO1.out _).mono ?_; clear HO1; rintro e w1 ⟨ra, ca, rfl, hBz, hZ1⟩; have HZ1 := hid hZ1)
                 | (go_at_call_of 49 (Value.slice ra L1 ca); refine (CM1.out _ ra ca (bel2b (by assumption)) HZ1.out).mono ?_; rintro e w2 ⟨rfl, hBz⟩; have HS := hid (keep2b (w := w) (by assumption) hBz))
                 | (go_at_call 47; refine (HO2.out _).mono ?_; rintro e w3 ⟨rb, cb, rfl, hBz, hZ2⟩; have HZ2 := hid hZ2)
                 | (go_at_call_of 49 (Value.slice rb L2 cb); refine (CM2.out _ rb cb (bel2b (by assumption)) HZ2.out).mono ?_; rintro e w4 ⟨rfl, hBz⟩; have HT := hid (keep2b (w := w) (by assumption) hBz)))
        go_wp2
        go_ret2
        first | exact ⟨rfl, bel2b HT.out⟩ | exact ⟨rfl, by rw [← hg]; exact bel2b HT.out⟩
  exact tail _ _ rfl rfl
end Go.Proofs.YtcngoobdknifdaaDoor
