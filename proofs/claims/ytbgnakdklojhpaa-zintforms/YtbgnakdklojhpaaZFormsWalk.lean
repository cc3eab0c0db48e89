/-
  ZintForms' walk: it returns true and writes nothing that was there.
-/
import Derived.Test.YtbgnakdklojhpaaZRSmall
namespace Go.Proofs.Ytbgnakdklojhpaa
open Go.RowKit Nt
set_option linter.unusedSimpArgs false
set_option linter.unusedVariables false

set_option maxHeartbeats 16000000 in
theorem zforms_walk (w : World) (x : Int) (s : Bool) (p : Option Addr) (n c : Nat) (xs : List Nat) (t : Bool) (q : Option Addr) (m d : Nat) (ys : List Nat) (h : Sl w p n c xs) (h' : Sl w q m d ys) (hx : -9223372036854775808 ≤ x ∧ x ≤ 9223372036854775807) (hs : c ≤ 35184372087808) (hs' : d ≤ 35184372087808) :
    Calls Try.prog 3 #[.int .i64 x, .agg #[.bool s, .slice p n c], .agg #[.bool t, .slice q m d]] w fun e w' => e = .returned (.bool true) ∧ Below w.heap.size w w' := by
  obtain ⟨W, g, hg, hW, d1, d2, d3, d4, HD⟩ := enter2c w s p n c t q m d
  have hx1 : -9223372036854775808 ≤ x := hx.1
  have hx2 : x < 9223372036854775808 := by omega
  have hn : n ≤ 35184372087808 := Nat.le_trans h.cap hs
  have hm : m ≤ 35184372087808 := Nat.le_trans h'.cap hs'
  have OFX : Hid (∀ W', Below w.heap.size w W' → Calls Try.prog 8 #[.int .i64 x] W' fun e w' => ∃ r cr, e = .returned (.agg #[.bool (ng (x)), .slice r (digs (x).natAbs).length cr]) ∧ Below W'.heap.size W' w' ∧ Sl w' r (digs (x).natAbs).length cr (digs (x).natAbs)) := fun W' hb => (zof_c W' x hx1 hx2).mono (fun e w' ⟨r, cr, h1, Z⟩ => ⟨r, cr, h1, Z.below, Z.sl⟩)
  have OFR : Hid (∀ W', Below w.heap.size w W' → Calls Try.prog 9 #[.int .i64 x] W' fun e w' => ∃ r cr, e = .returned (.agg #[.bool (ng (x)), .slice r (digs (x).natAbs).length cr]) ∧ Below W'.heap.size W' w' ∧ Sl w' r (digs (x).natAbs).length cr (digs (x).natAbs)) := fun W' hb => (zrof_c W' x hx1 hx2).mono (fun e w' ⟨r, cr, h1, Z⟩ => ⟨r, cr, h1, Z.below, Z.sl⟩)
  have FRM : Hid (∀ W' (ga ca : Nat), Below w.heap.size w W' → Sl W' (some ⟨ga, 0, none⟩) n ca xs → Calls Try.prog 10 #[.agg #[.bool s, .slice (some ⟨ga, 0, none⟩) n ca]] W' fun e w' => ∃ r cr, e = .returned (.agg #[.bool (ng (sg s (val xs))), .slice r (digs (sg s (val xs)).natAbs).length cr]) ∧ Below W'.heap.size W' w' ∧ Sl w' r (digs (sg s (val xs)).natAbs).length cr (digs (sg s (val xs)).natAbs)) := fun W' ga ca hb hr => (zform_c W' s (some ⟨ga, 0, none⟩) n ca xs hr (by omega)).mono (fun e w' ⟨r, cr, h1, Z⟩ => ⟨r, cr, h1, Z.below, Z.sl⟩)
  have NRM : Hid (∀ W', Below w.heap.size w W' → Calls Try.prog 12 #[.agg #[.bool s, .slice p n c]] W' fun e w' => ∃ r cr, e = .returned (.agg #[.bool (ng (sg s (val xs))), .slice r (digs (sg s (val xs)).natAbs).length cr]) ∧ Below W'.heap.size W' w' ∧ Sl w' r (digs (sg s (val xs)).natAbs).length cr (digs (sg s (val xs)).natAbs)) := fun W' hb => (zrnorm_c W' s p n c xs (h.below hb) (by omega)).mono (fun e w' ⟨r, cr, h1, Z⟩ => ⟨r, cr, h1, Z.below, Z.sl⟩)
  have OWA : Hid (∀ W', Below w.heap.size w W' → Calls Try.prog 11 #[.agg #[.bool s, .slice p n c]] W' fun e w' => ∃ gx cr, e = .returned (.agg #[.bool s, .slice (some ⟨gx, 0, none⟩) n cr]) ∧ Below W'.heap.size W' w' ∧ Sl w' (some ⟨gx, 0, none⟩) n cr xs) := fun W' hb => (own_c W' s p n c xs (h.below hb) hs).mono (fun e w' ⟨gx, cr, h1, C⟩ => ⟨gx, cr, h1, C.below, C.sl⟩)
  have OWB : Hid (∀ W', Below w.heap.size w W' → Calls Try.prog 11 #[.agg #[.bool t, .slice q m d]] W' fun e w' => ∃ gx cr, e = .returned (.agg #[.bool t, .slice (some ⟨gx, 0, none⟩) m cr]) ∧ Below W'.heap.size W' w' ∧ Sl w' (some ⟨gx, 0, none⟩) m cr ys) := fun W' hb => (own_c W' t q m d ys (h'.below hb) hs').mono (fun e w' ⟨gx, cr, h1, C⟩ => ⟨gx, cr, h1, C.below, C.sl⟩)
  have SMX : Hid (∀ W' (ga ca : Nat), Below w.heap.size w W' → Sl W' (some ⟨ga, 0, none⟩) n ca xs → Calls Try.prog 13 #[.agg #[.bool s, .slice (some ⟨ga, 0, none⟩) n ca]] W' fun e w' => e = .returned (.tuple #[.int .i64 (smV (sg s (val xs))), .bool (smK (sg s (val xs)))]) ∧ Below W'.heap.size W' w') := fun W' ga ca hb hr => zsmall_c W' s (some ⟨ga, 0, none⟩) n ca xs hr (by omega)
  have SMR : Hid (∀ W', Below w.heap.size w W' → Calls Try.prog 14 #[.agg #[.bool s, .slice p n c]] W' fun e w' => e = .returned (.tuple #[.int .i64 (smV (sg s (val xs))), .bool (smK (sg s (val xs)))]) ∧ Below W'.heap.size W' w') := fun W' hb => zrsmall_c W' s p n c xs (h.below hb) (by omega)
  have SGX : Hid (∀ W' (ga ca : Nat), Below w.heap.size w W' → Sl W' (some ⟨ga, 0, none⟩) n ca xs → Calls Try.prog 15 #[.agg #[.bool s, .slice (some ⟨ga, 0, none⟩) n ca]] W' fun e w' => e = .returned (.int .i64 (sg s (val xs)).sign) ∧ Below W'.heap.size W' w') := fun W' ga ca hb hr => zsign_c W' s (some ⟨ga, 0, none⟩) n ca xs hr (by omega)
  have SGR : Hid (∀ W', Below w.heap.size w W' → Calls Try.prog 16 #[.agg #[.bool s, .slice p n c]] W' fun e w' => e = .returned (.int .i64 (sg s (val xs)).sign) ∧ Below W'.heap.size W' w') := fun W' hb => zrsign_c W' s p n c xs (h.below hb) (by omega)
  have CPX : Hid (∀ W' (ga ca gb cb : Nat), Below w.heap.size w W' → Sl W' (some ⟨ga, 0, none⟩) n ca xs → Sl W' (some ⟨gb, 0, none⟩) m cb ys → Calls Try.prog 17 #[.agg #[.bool s, .slice (some ⟨ga, 0, none⟩) n ca], .agg #[.bool t, .slice (some ⟨gb, 0, none⟩) m cb]] W' fun e w' => e = .returned (.int .i64 (sg s (val xs) - sg t (val ys)).sign) ∧ Below W'.heap.size W' w') := fun W' ga ca gb cb hb hr hr' => zcompare_c W' s t (some ⟨ga, 0, none⟩) (some ⟨gb, 0, none⟩) n ca m cb xs ys hr hr' (by omega) (by omega)
  have CPR : Hid (∀ W', Below w.heap.size w W' → Calls Try.prog 18 #[.agg #[.bool s, .slice p n c], .agg #[.bool t, .slice q m d]] W' fun e w' => e = .returned (.int .i64 (sg s (val xs) - sg t (val ys)).sign) ∧ Below W'.heap.size W' w') := fun W' hb => zrcmp_c W' s t p q n c m d xs ys (h.below hb) (h'.below hb) (by omega) (by omega)
  obtain ⟨z, hz⟩ : ∃ z, sg s (val xs) = z := ⟨_, rfl⟩
  rw [hz] at FRM NRM SMX SMR SGX SGR
  obtain ⟨bO, hbO⟩ : ∃ b, ng x = b := ⟨_, rfl⟩
  obtain ⟨DO, hDO⟩ : ∃ D, digs x.natAbs = D := ⟨_, rfl⟩
  rw [hbO, hDO] at OFX OFR
  obtain ⟨LO, hLO⟩ : ∃ L, DO.length = L := ⟨_, rfl⟩
  rw [hLO] at OFX OFR
  obtain ⟨bF, hbF⟩ : ∃ b, ng z = b := ⟨_, rfl⟩
  obtain ⟨DF, hDF⟩ : ∃ D, digs z.natAbs = D := ⟨_, rfl⟩
  rw [hbF, hDF] at FRM NRM
  obtain ⟨LF, hLF⟩ : ∃ L, DF.length = L := ⟨_, rfl⟩
  rw [hLF] at FRM NRM
  obtain ⟨sv, hsv⟩ : ∃ v, smV z = v := ⟨_, rfl⟩
  obtain ⟨sk, hsk⟩ : ∃ v, smK z = v := ⟨_, rfl⟩
  rw [hsv, hsk] at SMX SMR
  obtain ⟨sn, hsn⟩ : ∃ v, z.sign = v := ⟨_, rfl⟩
  rw [hsn] at SGX SGR
  obtain ⟨cm, hcm⟩ : ∃ v, (sg s (val xs) - sg t (val ys)).sign = v := ⟨_, rfl⟩
  rw [hcm] at CPX CPR
  clear h h' hz hbO hDO hLO hbF hDF hLF hsv hsk hsn hcm
  clear hx hx1 hx2
  go_enter Try.func3, Try.ntmps3
  go_wp2
  go_region_held3 (fun w' => w'.cell? ⟨g, 0, none⟩ = some (.bool s) ∧ w'.cell? ⟨g, 1, none⟩ = some (.slice p n c) ∧ w'.cell? ⟨g + 1, 0, none⟩ = some (.bool t) ∧ w'.cell? ⟨g + 1, 1, none⟩ = some (.slice q m d) ∧ Hid (Below w.heap.size w w'))
    (first | (with_reducible exact keep4b (by assumption) hBz) | (exact ⟨d1, d2, d3, d4, HD.out.drew⟩) | (exact ⟨d1, d2, d3, d4, HD.out⟩) | fail)
    (first | (go_at_call 8; refine (OFX.out _ (bel4b (by assumption))).mono ?_; rintro e w1 ⟨r1, c1, rfl, hBz, hZ1⟩; have H1 := hid hZ1)
           | (go_at_call 9; refine (OFR.out _ (bel4b (by assumption))).mono ?_; rintro e w2 ⟨r2, c2, rfl, hBz, hZ2⟩; have H2 := hid hZ2; have H1b := hid (H1.out.below hBz))
           | (go_at_call_of 7 (Value.slice r1 LO c1); refine (eq_c _ bO r1 r2 LO c1 LO c2 DO H1b.out H2.out).mono ?_; rintro e w3 ⟨rfl, hBz⟩; have HS3 := hid (keep4b (w := w) (by assumption) hBz))
           | (go_at_call_of 11 (Value.slice p n c); refine (OWA.out _ (bel4b (by assumption))).mono ?_; rintro e wa ⟨ga, ca, rfl, hBz, hZa⟩; have HA := hid hZa)
           | (go_at_call 10; refine (FRM.out _ ga ca (bel4b (by assumption)) HA.out).mono ?_; rintro e w4 ⟨r3, c3, rfl, hBz, hZ3⟩; have H3 := hid hZ3)
           | (go_at_call 12; refine (NRM.out _ (bel4b (by assumption))).mono ?_; rintro e w5 ⟨r4, c4, rfl, hBz, hZ4⟩; have H4 := hid hZ4; have H3b := hid (H3.out.below hBz))
           | (go_at_call_of 7 (Value.slice r3 LF c3); refine (eq_c _ bF r3 r4 LF c3 LF c4 DF H3b.out H4.out).mono ?_; rintro e w6 ⟨rfl, hBz⟩; have HS := hid (keep4b (w := w) (by assumption) hBz)))
  obtain ⟨e1, e2, e3, e4, HE⟩ := HS.out
  replace d1 := e1
  replace d2 := e2
  replace d3 := e3
  replace d4 := e4
  replace HD := HE
  clear e1 e2 e3 e4 HE
  clear OFX OFR FRM NRM
  go_wp2_with fail
  refine (OWA.out _ HD.out).mono ?_
  rintro e wa ⟨ga, ca, rfl, hBz, hZa⟩
  have HS2 := hid (keep4b (w := w) ⟨d1, d2, d3, d4, HD⟩ hBz)
  have SM := hid (SMX.out wa ga ca (bel4b HS2.out) hZa)
  clear hBz hZa SMX
  obtain ⟨e1, e2, e3, e4, HE⟩ := HS2.out
  replace d1 := e1
  replace d2 := e2
  replace d3 := e3
  replace d4 := e4
  replace HD := HE
  clear e1 e2 e3 e4 HE
  go_wp2_with fail
  refine SM.out.mono ?_
  rintro e wb ⟨rfl, hBz⟩
  have HS4 := hid (keep4b (w := w) ⟨d1, d2, d3, d4, HD⟩ hBz)
  have SR := hid (SMR.out wb (bel4b HS4.out))
  clear hBz SMR SM HS2
  obtain ⟨e1, e2, e3, e4, HE⟩ := HS4.out
  replace d1 := e1
  replace d2 := e2
  replace d3 := e3
  replace d4 := e4
  replace HD := HE
  clear e1 e2 e3 e4 HE
  go_wp2_with fail
  refine SR.out.mono ?_
  rintro e wc ⟨rfl, hBz⟩
  have HS5 := hid (keep4b (w := w) ⟨d1, d2, d3, d4, HD⟩ hBz)
  clear hBz SR HS4
  obtain ⟨e1, e2, e3, e4, HE⟩ := HS5.out
  replace d1 := e1
  replace d2 := e2
  replace d3 := e3
  replace d4 := e4
  replace HD := HE
  clear e1 e2 e3 e4 HE
  go_wp2
  go_region_held3 (fun w' => w'.cell? ⟨g, 0, none⟩ = some (.bool s) ∧ w'.cell? ⟨g, 1, none⟩ = some (.slice p n c) ∧ w'.cell? ⟨g + 1, 0, none⟩ = some (.bool t) ∧ w'.cell? ⟨g + 1, 1, none⟩ = some (.slice q m d) ∧ Hid (Below w.heap.size w w'))
    (first | (with_reducible exact keep4b (by assumption) hBz) | (exact ⟨d1, d2, d3, d4, HD.out.drew⟩) | (exact ⟨d1, d2, d3, d4, HD.out⟩) | fail)
    (first | (go_at_call 15; refine (SGX.out _ ga ca (bel4b (by assumption)) HA.out).mono ?_; rintro e wg ⟨rfl, hBz⟩)
           | (go_at_call 16; refine (SGR.out _ (bel4b (by assumption))).mono ?_; rintro e wh ⟨rfl, hBz⟩)
           | (go_at_call_of 11 (Value.slice p n c); refine (OWA.out _ (bel4b (by assumption))).mono ?_; rintro e wa ⟨ga, ca, rfl, hBz, hZa⟩; have HA := hid hZa)
           | (go_at_call_of 11 (Value.slice q m d); refine (OWB.out _ (bel4b (by assumption))).mono ?_; rintro e wb ⟨gb, cb, rfl, hBz, hZb⟩; have HBB := hid hZb; have HA2 := hid (HA.out.below hBz))
           | (go_at_call 17; refine (CPX.out _ ga ca gb cb (bel4b (by assumption)) HA2.out HBB.out).mono ?_; rintro e wi ⟨rfl, hBz⟩)
           | (go_at_call 18; refine (CPR.out _ (bel4b (by assumption))).mono ?_; rintro e wj ⟨rfl, hBz⟩; have HT := hid (keep4b (w := w) (by assumption) hBz)))
  go_wp2
  go_ret
  first | exact ⟨rfl, bel4b HT.out⟩ | exact ⟨rfl, by rw [← hg]; exact bel4b HT.out⟩
end Go.Proofs.Ytbgnakdklojhpaa
