/-
  ZintSums' walk: it returns true and writes nothing that was there.
-/
import Derived.Test.YtbgnakdklojhpaaZEnds
namespace Go.Proofs.Ytbgnakdklojhpaa
open Go.RowKit Nt
set_option linter.unusedSimpArgs false
set_option linter.unusedVariables false

set_option maxHeartbeats 16000000 in
theorem zsums_walk (w : World) (s : Bool) (p : Option Addr) (n c : Nat) (xs : List Nat) (t : Bool) (q : Option Addr) (m d : Nat) (ys : List Nat) (h : Sl w p n c xs) (h' : Sl w q m d ys) (hs : c ≤ 1048576) (hs' : d ≤ 1048576) :
    Calls Try.prog 4 #[.agg #[.bool s, .slice p n c], .agg #[.bool t, .slice q m d]] w fun e w' => e = .returned (.bool true) ∧ Below w.heap.size w w' := by
  obtain ⟨W, g, hg, hW, c10, c11, c20, c21, HB⟩ := enter2b w s p n c t q m d
  have HX := hid h
  have HY := hid h'
  have hcl : c ≤ 35184372087808 := by omega
  have hdl : d ≤ 35184372087808 := by omega
  have hn : n ≤ 1048576 := Nat.le_trans h.cap hs
  have hm : m ≤ 1048576 := Nat.le_trans h'.cap hs'
  have hWs : g + 1 < W.heap.size := by rw [← hW]; simp; omega
  have HSW : Hid (Sb w g s t p q n c m d W) := ⟨c10, c11, c20, c21, HB.out⟩
  have HS0 : Hid (Sb w g s t p q n c m d W.drew) := ⟨c10, c11, c20, c21, HB.out.drew⟩
  clear h h'
  go_enter Try.func4, Try.ntmps4
  go_wp2
  go_cut [5, 6] (fun v5 v6 wc => ∃ bx gx crx by' gy cry, v5 = .pointer (some ⟨bx, 0, none⟩) ∧ v6 = .pointer (some ⟨by', 0, none⟩) ∧ Hid (Own2 w wc g s t p q n c m d xs ys bx gx crx by' gy cry))
  case first =>
    go_region_held3 (fun w' => w'.cell? ⟨g, 0, none⟩ = some (.bool s) ∧ w'.cell? ⟨g, 1, none⟩ = some (.slice p n c) ∧ w'.cell? ⟨g + 1, 0, none⟩ = some (.bool t) ∧ w'.cell? ⟨g + 1, 1, none⟩ = some (.slice q m d) ∧ Hid (Below w.heap.size w w'))
      (first | (with_reducible exact Sb.out HS2.out) | (with_reducible exact Sb.out (Sb.alloc HS2.out _)) | (with_reducible exact Sb.out (Sb.alloc (Sb.alloc HS2.out _) _)) | (with_reducible exact Sb.out HS1.out) | (with_reducible exact Sb.out (Sb.alloc HS1.out _)) | (with_reducible exact Sb.out (Sb.alloc (Sb.alloc HS1.out _) _)) | (with_reducible exact Sb.out HS0.out) | (with_reducible exact Sb.out (Sb.alloc HS0.out _)) | (with_reducible exact Sb.out (Sb.alloc (Sb.alloc HS0.out _) _)) | (with_reducible exact Sb.out (Sb.set HS2.out hg (by omega))) | (with_reducible exact Sb.out (Sb.set (Sb.alloc HS2.out _) hg (by omega))) | (with_reducible exact Sb.out (Sb.set (Sb.alloc (Sb.alloc HS2.out _) _) hg (by omega))) | (with_reducible exact Sb.out (Sb.set (Sb.set HS2.out hg (by omega)) hg (by omega))) | (with_reducible exact Sb.out (Sb.set (Sb.set (Sb.alloc HS2.out _) hg (by omega)) hg (by omega))) | (with_reducible exact Sb.out (Sb.drew (Sb.alloc HSW.out _))) | (with_reducible exact Sb.out (Sb.drew (Sb.alloc (Sb.alloc HSW.out _) _))) | fail)
      (first | (go_at_call_of 11 (Value.slice p n c); refine (own_c _ s p n c xs (HX.out.below (belOf (by assumption))) hcl).mono ?_; rintro e w1 ⟨gx, crx, rfl, CX⟩; have hBz := CX.below; have hgx1 := CX.fresh; (try simp at hgx1); have hgx2 := CX.lt; have hz1 := hBz.size; (try simp at hz1); have HS1 : Hid (Sb w g s t p q n c m d w1) := Sb.call (by assumption) hBz; (first | (have za : Box w1 W.heap.size false none 0 0 := (by with_reducible exact (box_dr1 W).below hBz); have za0 := za.at0; have za1 := za.at1; have za2 := za.frozen 0; have za3 := za.frozen 1; have za4 := fun o => (za.below (below_alloc w1 o)).at0; have za5 := fun o => (za.below (below_alloc w1 o)).at1; have za6 := fun o => (za.below (below_alloc w1 o)).frozen 0; have za7 := fun o => (za.below (below_alloc w1 o)).frozen 1; have za8 : w1.heap.size ≠ W.heap.size := World.new_ne _ _ za0; have za9 := Ne.symm za8) | (have za : Box w1 W.heap.size false none 0 0 := (by with_reducible exact (box_dr2a W).below hBz); have za0 := za.at0; have za1 := za.at1; have za2 := za.frozen 0; have za3 := za.frozen 1; have za4 := fun o => (za.below (below_alloc w1 o)).at0; have za5 := fun o => (za.below (below_alloc w1 o)).at1; have za6 := fun o => (za.below (below_alloc w1 o)).frozen 0; have za7 := fun o => (za.below (below_alloc w1 o)).frozen 1; have za8 : w1.heap.size ≠ W.heap.size := World.new_ne _ _ za0; have za9 := Ne.symm za8) | skip); (first | (have zb : Box w1 (W.heap.size + 1) false none 0 0 := (by with_reducible exact (box_dr2b W).below hBz); have zb0 := zb.at0; have zb1 := zb.at1; have zb2 := zb.frozen 0; have zb3 := zb.frozen 1; have zb4 := fun o => (zb.below (below_alloc w1 o)).at0; have zb5 := fun o => (zb.below (below_alloc w1 o)).at1; have zb6 := fun o => (zb.below (below_alloc w1 o)).frozen 0; have zb7 := fun o => (zb.below (below_alloc w1 o)).frozen 1; have zb8 : w1.heap.size ≠ (W.heap.size + 1) := World.new_ne _ _ zb0; have zb9 := Ne.symm zb8) | skip))
             | (go_at_call_of 11 (Value.slice q m d); refine (own_c _ t q m d ys (HY.out.below (belOf (by assumption))) hdl).mono ?_; rintro e w2 ⟨gy, cry, rfl, CY⟩; have hBz := CY.below; have hgy1 := CY.fresh; (try simp at hgy1); have hgy2 := CY.lt; (first | (have HSX2 : Sl w2 (some ⟨gx, 0, none⟩) n crx xs := (by with_reducible exact CX.sl.below hBz)) | (have HSX2 : Sl w2 (some ⟨gx, 0, none⟩) n crx xs := (by with_reducible exact (CX.sl.below (below_alloc _ _)).below hBz)) | (have HSX2 : Sl w2 (some ⟨gx, 0, none⟩) n crx xs := (by with_reducible exact ((CX.sl.below (below_alloc _ _)).below (below_alloc _ _)).below hBz)) | fail); have HSY2 : Sl w2 (some ⟨gy, 0, none⟩) m cry ys := CY.sl; have hz2 := hBz.size; (try simp at hz2); have HS2 : Hid (Sb w g s t p q n c m d w2) := Sb.call (by assumption) hBz; (first | (have ya : Box w2 W.heap.size false none 0 0 := (by with_reducible exact za.below hBz); have ya0 := ya.at0; have ya1 := ya.at1; have ya2 := ya.frozen 0; have ya3 := ya.frozen 1; have ya4 := fun o => (ya.below (below_alloc w2 o)).at0; have ya5 := fun o => (ya.below (below_alloc w2 o)).at1; have ya6 := fun o => (ya.below (below_alloc w2 o)).frozen 0; have ya7 := fun o => (ya.below (below_alloc w2 o)).frozen 1; have ya8 : w2.heap.size ≠ W.heap.size := World.new_ne _ _ ya0; have ya9 := Ne.symm ya8) | (have ya : Box w2 W.heap.size false none 0 0 := (by with_reducible exact (za.below (below_alloc _ _)).below hBz); have ya0 := ya.at0; have ya1 := ya.at1; have ya2 := ya.frozen 0; have ya3 := ya.frozen 1; have ya4 := fun o => (ya.below (below_alloc w2 o)).at0; have ya5 := fun o => (ya.below (below_alloc w2 o)).at1; have ya6 := fun o => (ya.below (below_alloc w2 o)).frozen 0; have ya7 := fun o => (ya.below (below_alloc w2 o)).frozen 1; have ya8 : w2.heap.size ≠ W.heap.size := World.new_ne _ _ ya0; have ya9 := Ne.symm ya8) | (have ya : Box w2 W.heap.size false none 0 0 := (by with_reducible exact ((za.below (below_alloc _ _)).below (below_alloc _ _)).below hBz); have ya0 := ya.at0; have ya1 := ya.at1; have ya2 := ya.frozen 0; have ya3 := ya.frozen 1; have ya4 := fun o => (ya.below (below_alloc w2 o)).at0; have ya5 := fun o => (ya.below (below_alloc w2 o)).at1; have ya6 := fun o => (ya.below (below_alloc w2 o)).frozen 0; have ya7 := fun o => (ya.below (below_alloc w2 o)).frozen 1; have ya8 : w2.heap.size ≠ W.heap.size := World.new_ne _ _ ya0; have ya9 := Ne.symm ya8) | skip); (first | (have yb : Box w2 (W.heap.size + 1) false none 0 0 := (by with_reducible exact zb.below hBz); have yb0 := yb.at0; have yb1 := yb.at1; have yb2 := yb.frozen 0; have yb3 := yb.frozen 1; have yb4 := fun o => (yb.below (below_alloc w2 o)).at0; have yb5 := fun o => (yb.below (below_alloc w2 o)).at1; have yb6 := fun o => (yb.below (below_alloc w2 o)).frozen 0; have yb7 := fun o => (yb.below (below_alloc w2 o)).frozen 1; have yb8 : w2.heap.size ≠ (W.heap.size + 1) := World.new_ne _ _ yb0; have yb9 := Ne.symm yb8) | (have yb : Box w2 (W.heap.size + 1) false none 0 0 := (by with_reducible exact (zb.below (below_alloc _ _)).below hBz); have yb0 := yb.at0; have yb1 := yb.at1; have yb2 := yb.frozen 0; have yb3 := yb.frozen 1; have yb4 := fun o => (yb.below (below_alloc w2 o)).at0; have yb5 := fun o => (yb.below (below_alloc w2 o)).at1; have yb6 := fun o => (yb.below (below_alloc w2 o)).frozen 0; have yb7 := fun o => (yb.below (below_alloc w2 o)).frozen 1; have yb8 : w2.heap.size ≠ (W.heap.size + 1) := World.new_ne _ _ yb0; have yb9 := Ne.symm yb8) | (have yb : Box w2 (W.heap.size + 1) false none 0 0 := (by with_reducible exact ((zb.below (below_alloc _ _)).below (below_alloc _ _)).below hBz); have yb0 := yb.at0; have yb1 := yb.at1; have yb2 := yb.frozen 0; have yb3 := yb.frozen 1; have yb4 := fun o => (yb.below (below_alloc w2 o)).at0; have yb5 := fun o => (yb.below (below_alloc w2 o)).at1; have yb6 := fun o => (yb.below (below_alloc w2 o)).frozen 0; have yb7 := fun o => (yb.below (below_alloc w2 o)).frozen 1; have yb8 : w2.heap.size ≠ (W.heap.size + 1) := World.new_ne _ _ yb0; have yb9 := Ne.symm yb8) | skip); (first | (have zc : Box w2 w1.heap.size false none 0 0 := (by with_reducible exact (box_alloc w1 false none 0 0).below hBz); have zc0 := zc.at0; have zc1 := zc.at1; have zc2 := zc.frozen 0; have zc3 := zc.frozen 1; have zc4 := fun o => (zc.below (below_alloc w2 o)).at0; have zc5 := fun o => (zc.below (below_alloc w2 o)).at1; have zc6 := fun o => (zc.below (below_alloc w2 o)).frozen 0; have zc7 := fun o => (zc.below (below_alloc w2 o)).frozen 1; have zc8 : w2.heap.size ≠ w1.heap.size := World.new_ne _ _ zc0; have zc9 := Ne.symm zc8) | (have zc : Box w2 w1.heap.size false none 0 0 := (by with_reducible exact ((box_alloc w1 false none 0 0).below (below_alloc _ _)).below hBz); have zc0 := zc.at0; have zc1 := zc.at1; have zc2 := zc.frozen 0; have zc3 := zc.frozen 1; have zc4 := fun o => (zc.below (below_alloc w2 o)).at0; have zc5 := fun o => (zc.below (below_alloc w2 o)).at1; have zc6 := fun o => (zc.below (below_alloc w2 o)).frozen 0; have zc7 := fun o => (zc.below (below_alloc w2 o)).frozen 1; have zc8 : w2.heap.size ≠ w1.heap.size := World.new_ne _ _ zc0; have zc9 := Ne.symm zc8) | skip); (first | (have zd : Box w2 (w1.heap.size + 1) false none 0 0 := (by with_reducible exact (box_alloc2 w1 _ false none 0 0).below hBz); have zd0 := zd.at0; have zd1 := zd.at1; have zd2 := zd.frozen 0; have zd3 := zd.frozen 1; have zd4 := fun o => (zd.below (below_alloc w2 o)).at0; have zd5 := fun o => (zd.below (below_alloc w2 o)).at1; have zd6 := fun o => (zd.below (below_alloc w2 o)).frozen 0; have zd7 := fun o => (zd.below (below_alloc w2 o)).frozen 1; have zd8 : w2.heap.size ≠ (w1.heap.size + 1) := World.new_ne _ _ zd0; have zd9 := Ne.symm zd8) | skip)))
    all_goals
      go_wp2_with fail
      go_meet
      refine ⟨_, gx, crx, _, gy, cry, rfl, rfl, ?_⟩
      refine hid ?_
      (try clear za8); (try clear za9); (try clear zb8); (try clear zb9); (try clear ya8); (try clear ya9); (try clear yb8); (try clear yb9); (try clear zc8); (try clear zc9); (try clear zd8); (try clear zd9); skip
      first
        | (with_reducible exact end1 HS2.out hg HSX2 HSY2)
        | (with_reducible exact end2 HS2.out hg HSX2 HSY2)
        | (with_reducible exact end4 HS2.out hg HSX2 HSY2 (by assumption) (by assumption) (by omega) (by omega) (by omega) (by omega) (by omega) (by omega) (by omega))
        | (with_reducible exact end3 HS2.out hg HSX2 HSY2 (by assumption) (by omega) (by omega) (by omega) (by omega) (by omega))
        | (with_reducible exact end5 HS2.out hg HSX2 HSY2 (by assumption) (by omega) (by omega) (by omega))
  case rest =>
    obtain ⟨bx, gx, crx, by', gy, cry, rfl, rfl, HO⟩ := hcut
    have d1 := HO.out.sb.1
    have d2 := HO.out.sb.2.1
    have d3 := HO.out.sb.2.2.1
    have d4 := HO.out.sb.2.2.2.1
    have d5 := HO.out.bx.at0
    have d6 := HO.out.bx.at1
    have d7 := HO.out.by'.at0
    have d8 := HO.out.by'.at1
    have HD : Hid (Below wc.heap.size wc wc) := Below.refl _ _
    have hX := hid HO.out.sx
    have hY := hid HO.out.sy
    have hA := hid (HX.out.below HO.out.sb.bel)
    have hB := hid (HY.out.below HO.out.sb.bel)
    have HW := hid HO.out.sb.bel
    clear HSW HS0 HB HO c10 c11 c20 c21
    have FA : Hid (∃ (b : Bool) (L : Nat) (D : List Nat),
        (∀ W', Below wc.heap.size wc W' → Calls Try.prog 19 #[.agg #[.bool s, .slice (some ⟨gx, 0, none⟩) n crx], .agg #[.bool t, .slice (some ⟨gy, 0, none⟩) m cry]] W' fun e w' => ∃ r cr, e = .returned (.agg #[.bool b, .slice r L cr]) ∧ Below W'.heap.size W' w' ∧ Sl w' r L cr D) ∧
        (∀ W', Below wc.heap.size wc W' → Calls Try.prog 20 #[.agg #[.bool s, .slice p n c], .agg #[.bool t, .slice q m d]] W' fun e w' => ∃ r cr, e = .returned (.agg #[.bool b, .slice r L cr]) ∧ Below W'.heap.size W' w' ∧ Sl w' r L cr D)) := by
      refine ⟨ng (sg s (val xs) + sg t (val ys)), (digs (sg s (val xs) + sg t (val ys)).natAbs).length, digs (sg s (val xs) + sg t (val ys)).natAbs, ?_, ?_⟩
      · intro W' hb
        refine (zadd_c W' s t (some ⟨gx, 0, none⟩) (some ⟨gy, 0, none⟩) n crx m cry xs ys (hX.out.below hb) (hY.out.below hb) (by omega) (by omega)).mono ?_
        rintro e w' ⟨r, cr, rfl, Z⟩
        exact ⟨r, cr, rfl, Z.below, Z.sl⟩
      · intro W' hb
        refine (zradd_c W' s t p q n c m d xs ys (hA.out.below hb) (hB.out.below hb) (by omega) (by omega)).mono ?_
        rintro e w' ⟨r, cr, rfl, Z⟩
        exact ⟨r, cr, rfl, Z.below, Z.sl⟩
    obtain ⟨bA, LA, DA, XA, RA⟩ := FA.out
    replace XA := hid XA
    replace RA := hid RA
    clear FA
    have FS : Hid (∃ (b : Bool) (L : Nat) (D : List Nat),
        (∀ W', Below wc.heap.size wc W' → Calls Try.prog 21 #[.agg #[.bool s, .slice (some ⟨gx, 0, none⟩) n crx], .agg #[.bool t, .slice (some ⟨gy, 0, none⟩) m cry]] W' fun e w' => ∃ r cr, e = .returned (.agg #[.bool b, .slice r L cr]) ∧ Below W'.heap.size W' w' ∧ Sl w' r L cr D) ∧
        (∀ W', Below wc.heap.size wc W' → Calls Try.prog 22 #[.agg #[.bool s, .slice p n c], .agg #[.bool t, .slice q m d]] W' fun e w' => ∃ r cr, e = .returned (.agg #[.bool b, .slice r L cr]) ∧ Below W'.heap.size W' w' ∧ Sl w' r L cr D)) := by
      refine ⟨ng (sg s (val xs) - sg t (val ys)), (digs (sg s (val xs) - sg t (val ys)).natAbs).length, digs (sg s (val xs) - sg t (val ys)).natAbs, ?_, ?_⟩
      · intro W' hb
        refine (zsub_c W' s t (some ⟨gx, 0, none⟩) (some ⟨gy, 0, none⟩) n crx m cry xs ys (hX.out.below hb) (hY.out.below hb) (by omega) (by omega)).mono ?_
        rintro e w' ⟨r, cr, rfl, Z⟩
        exact ⟨r, cr, rfl, Z.below, Z.sl⟩
      · intro W' hb
        refine (zrsub_c W' s t p q n c m d xs ys (hA.out.below hb) (hB.out.below hb) (by omega) (by omega)).mono ?_
        rintro e w' ⟨r, cr, rfl, Z⟩
        exact ⟨r, cr, rfl, Z.below, Z.sl⟩
    obtain ⟨bS, LS, DS, XS, RS⟩ := FS.out
    replace XS := hid XS
    replace RS := hid RS
    clear FS
    have FM : Hid (∃ (b : Bool) (L : Nat) (D : List Nat),
        (∀ W', Below wc.heap.size wc W' → Calls Try.prog 23 #[.agg #[.bool s, .slice (some ⟨gx, 0, none⟩) n crx], .agg #[.bool t, .slice (some ⟨gy, 0, none⟩) m cry]] W' fun e w' => ∃ r cr, e = .returned (.agg #[.bool b, .slice r L cr]) ∧ Below W'.heap.size W' w' ∧ Sl w' r L cr D) ∧
        (∀ W', Below wc.heap.size wc W' → Calls Try.prog 24 #[.agg #[.bool s, .slice p n c], .agg #[.bool t, .slice q m d]] W' fun e w' => ∃ r cr, e = .returned (.agg #[.bool b, .slice r L cr]) ∧ Below W'.heap.size W' w' ∧ Sl w' r L cr D)) := by
      refine ⟨ng (sg s (val xs) * sg t (val ys)), (digs (sg s (val xs) * sg t (val ys)).natAbs).length, digs (sg s (val xs) * sg t (val ys)).natAbs, ?_, ?_⟩
      · intro W' hb
        refine (zmul_c W' s t (some ⟨gx, 0, none⟩) (some ⟨gy, 0, none⟩) n crx m cry xs ys (hX.out.below hb) (hY.out.below hb) (by omega)).mono ?_
        rintro e w' ⟨r, cr, rfl, Z⟩
        exact ⟨r, cr, rfl, Z.below, Z.sl⟩
      · intro W' hb
        refine (zrmul_c W' s t p q n c m d xs ys (hA.out.below hb) (hB.out.below hb) (by omega)).mono ?_
        rintro e w' ⟨r, cr, rfl, Z⟩
        exact ⟨r, cr, rfl, Z.below, Z.sl⟩
    obtain ⟨bM, LM, DM, XM, RM⟩ := FM.out
    replace XM := hid XM
    replace RM := hid RM
    clear FM
    have FN : Hid (∃ (b : Bool) (L : Nat) (D : List Nat),
        (∀ W', Below wc.heap.size wc W' → Calls Try.prog 25 #[.agg #[.bool s, .slice (some ⟨gx, 0, none⟩) n crx]] W' fun e w' => ∃ r cr, e = .returned (.agg #[.bool b, .slice r L cr]) ∧ Below W'.heap.size W' w' ∧ Sl w' r L cr D) ∧
        (∀ W', Below wc.heap.size wc W' → Calls Try.prog 26 #[.agg #[.bool s, .slice p n c]] W' fun e w' => ∃ r cr, e = .returned (.agg #[.bool b, .slice r L cr]) ∧ Below W'.heap.size W' w' ∧ Sl w' r L cr D)) := by
      refine ⟨ng (- sg s (val xs)), (digs (- sg s (val xs)).natAbs).length, digs (- sg s (val xs)).natAbs, ?_, ?_⟩
      · intro W' hb
        refine (zneg_c W' s (some ⟨gx, 0, none⟩) n crx xs (hX.out.below hb) (by omega)).mono ?_
        rintro e w' ⟨r, cr, rfl, Z⟩
        exact ⟨r, cr, rfl, Z.below, Z.sl⟩
      · intro W' hb
        refine (zrneg_c W' s p n c xs (hA.out.below hb) (by omega)).mono ?_
        rintro e w' ⟨r, cr, rfl, Z⟩
        exact ⟨r, cr, rfl, Z.below, Z.sl⟩
    obtain ⟨bN, LN, DN, XN, RN⟩ := FN.out
    replace XN := hid XN
    replace RN := hid RN
    clear FN
    have FB : Hid (∃ (b : Bool) (L : Nat) (D : List Nat),
        (∀ W', Below wc.heap.size wc W' → Calls Try.prog 27 #[.agg #[.bool s, .slice (some ⟨gx, 0, none⟩) n crx]] W' fun e w' => ∃ r cr, e = .returned (.agg #[.bool b, .slice r L cr]) ∧ Below W'.heap.size W' w' ∧ Sl w' r L cr D) ∧
        (∀ W', Below wc.heap.size wc W' → Calls Try.prog 28 #[.agg #[.bool s, .slice p n c]] W' fun e w' => ∃ r cr, e = .returned (.agg #[.bool b, .slice r L cr]) ∧ Below W'.heap.size W' w' ∧ Sl w' r L cr D)) := by
      refine ⟨ng (sg false (val xs)), (digs (sg false (val xs)).natAbs).length, digs (sg false (val xs)).natAbs, ?_, ?_⟩
      · intro W' hb
        refine (zabs_c W' s (some ⟨gx, 0, none⟩) n crx xs (hX.out.below hb) (by omega)).mono ?_
        rintro e w' ⟨r, cr, rfl, Z⟩
        exact ⟨r, cr, rfl, Z.below, Z.sl⟩
      · intro W' hb
        refine (zrabs_c W' s p n c xs (hA.out.below hb) (by omega)).mono ?_
        rintro e w' ⟨r, cr, rfl, Z⟩
        exact ⟨r, cr, rfl, Z.below, Z.sl⟩
    obtain ⟨bB, LB, DB, XB, RB⟩ := FB.out
    replace XB := hid XB
    replace RB := hid RB
    clear FB
    go_wp2
    go_region_held3 (fun w' => w'.cell? ⟨g, 0, none⟩ = some (.bool s) ∧ w'.cell? ⟨g, 1, none⟩ = some (.slice p n c) ∧ w'.cell? ⟨g + 1, 0, none⟩ = some (.bool t) ∧ w'.cell? ⟨g + 1, 1, none⟩ = some (.slice q m d) ∧ w'.cell? ⟨bx, 0, none⟩ = some (.bool s) ∧ w'.cell? ⟨bx, 1, none⟩ = some (.slice (some ⟨gx, 0, none⟩) n crx) ∧ w'.cell? ⟨by', 0, none⟩ = some (.bool t) ∧ w'.cell? ⟨by', 1, none⟩ = some (.slice (some ⟨gy, 0, none⟩) m cry) ∧ Hid (Below wc.heap.size wc w'))
      (first | (with_reducible exact keep8 (by assumption) hBz) | (exact ⟨d1, d2, d3, d4, d5, d6, d7, d8, HD.out.drew⟩) | fail)
      (first | (go_at_call 19; refine (XA.out _ (bel8 (by assumption))).mono ?_; rintro e wxA ⟨rxA, cxA, rfl, hBz, hZA⟩; have HXA := hid hZA)
             | (go_at_call 20; refine (RA.out _ (bel8 (by assumption))).mono ?_; rintro e wrA ⟨rrA, crA, rfl, hBz, hZrA⟩; have HRA := hid hZrA; have HXA' := hid (HXA.out.below hBz))
             | (go_at_call_of 7 (Value.slice rxA LA cxA); refine (eq_c _ bA rxA rrA LA cxA LA crA DA HXA'.out HRA.out).mono ?_; rintro e weA ⟨rfl, hBz⟩; have HSA := hid (keep8 (wc := wc) (by assumption) hBz))
             | (go_at_call 21; refine (XS.out _ (bel8 (by assumption))).mono ?_; rintro e wxS ⟨rxS, cxS, rfl, hBz, hZS⟩; have HXS := hid hZS)
             | (go_at_call 22; refine (RS.out _ (bel8 (by assumption))).mono ?_; rintro e wrS ⟨rrS, crS, rfl, hBz, hZrS⟩; have HRS := hid hZrS; have HXS' := hid (HXS.out.below hBz))
             | (go_at_call_of 7 (Value.slice rxS LS cxS); refine (eq_c _ bS rxS rrS LS cxS LS crS DS HXS'.out HRS.out).mono ?_; rintro e weS ⟨rfl, hBz⟩; have HSS := hid (keep8 (wc := wc) (by assumption) hBz))
             | (go_at_call 23; refine (XM.out _ (bel8 (by assumption))).mono ?_; rintro e wxM ⟨rxM, cxM, rfl, hBz, hZM⟩; have HXM := hid hZM)
             | (go_at_call 24; refine (RM.out _ (bel8 (by assumption))).mono ?_; rintro e wrM ⟨rrM, crM, rfl, hBz, hZrM⟩; have HRM := hid hZrM; have HXM' := hid (HXM.out.below hBz))
             | (go_at_call_of 7 (Value.slice rxM LM cxM); refine (eq_c _ bM rxM rrM LM cxM LM crM DM HXM'.out HRM.out).mono ?_; rintro e weM ⟨rfl, hBz⟩; have HSM := hid (keep8 (wc := wc) (by assumption) hBz)))
    obtain ⟨e1, e2, e3, e4, e5, e6, e7, e8, HE⟩ := HSM.out
    replace d1 := e1
    replace d2 := e2
    replace d3 := e3
    replace d4 := e4
    replace d5 := e5
    replace d6 := e6
    replace d7 := e7
    replace d8 := e8
    replace HD := HE
    clear e1 e2 e3 e4 e5 e6 e7 e8 HE
    clear XA RA XS RS XM RM
    go_wp2
    go_region_held3 (fun w' => w'.cell? ⟨g, 0, none⟩ = some (.bool s) ∧ w'.cell? ⟨g, 1, none⟩ = some (.slice p n c) ∧ w'.cell? ⟨g + 1, 0, none⟩ = some (.bool t) ∧ w'.cell? ⟨g + 1, 1, none⟩ = some (.slice q m d) ∧ w'.cell? ⟨bx, 0, none⟩ = some (.bool s) ∧ w'.cell? ⟨bx, 1, none⟩ = some (.slice (some ⟨gx, 0, none⟩) n crx) ∧ w'.cell? ⟨by', 0, none⟩ = some (.bool t) ∧ w'.cell? ⟨by', 1, none⟩ = some (.slice (some ⟨gy, 0, none⟩) m cry) ∧ Hid (Below wc.heap.size wc w'))
      (first | (with_reducible exact keep8 (by assumption) hBz) | (exact ⟨d1, d2, d3, d4, d5, d6, d7, d8, HD.out.drew⟩) | fail)
      (first | (go_at_call 25; refine (XN.out _ (bel8 (by assumption))).mono ?_; rintro e wxN ⟨rxN, cxN, rfl, hBz, hZN⟩; have HXN := hid hZN)
             | (go_at_call 26; refine (RN.out _ (bel8 (by assumption))).mono ?_; rintro e wrN ⟨rrN, crN, rfl, hBz, hZrN⟩; have HRN := hid hZrN; have HXN' := hid (HXN.out.below hBz))
             | (go_at_call_of 7 (Value.slice rxN LN cxN); refine (eq_c _ bN rxN rrN LN cxN LN crN DN HXN'.out HRN.out).mono ?_; rintro e weN ⟨rfl, hBz⟩; have HSN := hid (keep8 (wc := wc) (by assumption) hBz))
             | (go_at_call 27; refine (XB.out _ (bel8 (by assumption))).mono ?_; rintro e wxB ⟨rxB, cxB, rfl, hBz, hZB⟩; have HXB := hid hZB)
             | (go_at_call 28; refine (RB.out _ (bel8 (by assumption))).mono ?_; rintro e wrB ⟨rrB, crB, rfl, hBz, hZrB⟩; have HRB := hid hZrB; have HXB' := hid (HXB.out.below hBz))
             | (go_at_call_of 7 (Value.slice rxB LB cxB); refine (eq_c _ bB rxB rrB LB cxB LB crB DB HXB'.out HRB.out).mono ?_; rintro e weB ⟨rfl, hBz⟩; have HSB := hid (keep8 (wc := wc) (by assumption) hBz)))
    obtain ⟨e1, e2, e3, e4, e5, e6, e7, e8, HE⟩ := HSB.out
    replace d1 := e1
    replace d2 := e2
    replace d3 := e3
    replace d4 := e4
    replace d5 := e5
    replace d6 := e6
    replace d7 := e7
    replace d8 := e8
    replace HD := HE
    clear e1 e2 e3 e4 e5 e6 e7 e8 HE
    clear XN RN
    have KX := hid (kept2_c weB s (some ⟨gx, 0, none⟩) p n crx n c xs (hX.out.below HD.out) (hA.out.below HD.out))
    go_wp2_with fail
    refine KX.out.mono ?_
    rintro e wk ⟨rfl, hBz⟩
    have HK := hid (keep8 (wc := wc) ⟨d1, d2, d3, d4, d5, d6, d7, d8, HD⟩ hBz)
    obtain ⟨e1, e2, e3, e4, e5, e6, e7, e8, HE⟩ := HK.out
    replace d1 := e1
    replace d2 := e2
    replace d3 := e3
    replace d4 := e4
    replace d5 := e5
    replace d6 := e6
    replace d7 := e7
    replace d8 := e8
    replace HD := HE
    clear e1 e2 e3 e4 e5 e6 e7 e8 HE
    have KY := hid (kept2_c wk t (some ⟨gy, 0, none⟩) q m cry m d ys (hY.out.below HD.out) (hB.out.below HD.out))
    go_wp2_with fail
    refine KY.out.mono ?_
    rintro e wl ⟨rfl, hBy⟩
    have HF := hid (HW.out.trans ((HD.out.trans (hBy.mono HD.out.size)).mono HW.out.size))
    go_wp2
    go_ret
    exact ⟨rfl, HF.out⟩
end Go.Proofs.Ytbgnakdklojhpaa
