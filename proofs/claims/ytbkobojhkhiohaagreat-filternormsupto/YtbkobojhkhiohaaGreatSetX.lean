import Derived.Test.YtbkobojhkhiohaaGreatSetM
import Derived.Laws.AppendOwnNone
set_option linter.all false
namespace Go.Proofs.YtbkobojhkhiohaaGreat
open Go.RowKit Nt
set_option maxRecDepth 20000
set_option maxHeartbeats 16000000
theorem yng (v : Nat) : (Go.bitLen v + 31) / 32 = (digs v).length := by
 by_cases h0 : v = 0
 ·subst h0; rfl
 obtain ⟨s1, s2⟩ := bitLen_spec v
 have s3 := s2 h0
 obtain ⟨L, hL⟩ : ∃ L, (digs v).length = L := ⟨_, rfl⟩
 have h1 := yb3 v
 have h2 := yiq h0
 rw [hL] at h1 h2 ⊢
 have hL0 : L ≠ 0 := by intro e; rw [e] at hL; exact h0 ((yax v).1 hL)
 have e1 : (4294967296 : Nat) ^ L = 2 ^ (32 * L) := by rw [zhi]
 have e2 : (4294967296 : Nat) ^ (L - 1) = 2 ^ (32 * (L - 1)) := by rw [zhi]
 rw [e1] at h1
 rw [e2] at h2
 have u1 : Go.bitLen v ≤ 32 * L := by
  apply Classical.byContradiction
  intro hc
  have : 2 ^ (32 * L) ≤ 2 ^ (Go.bitLen v - 1) := zfl (by omega) (by omega)
  omega
 have u2 : 32 * (L - 1) < Go.bitLen v := by
  apply Classical.byContradiction
  intro hc
  have : 2 ^ Go.bitLen v ≤ 2 ^ (32 * (L - 1)) := zfl (by omega) (by omega)
  omega
 omega
theorem yui (w : World) (p : Option Addr) (n c : Nat) (xs : List Nat) (h : Sl w p n c xs) (hs : n ≤ 70368744177664) :
  Calls Tryz.prog 96 #[.slice p n c] w fun e w' => e = .returned (.int .i64 ((digs (val xs)).length : Nat)) ∧ w' = w := by
 have B := yq9 w p n c xs h (by omega)
 have e := yng (val xs)
 have hdl := h.dl
 obtain ⟨bl, hbl⟩ : ∃ bl, Go.bitLen (val xs) = bl := ⟨_, rfl⟩
 obtain ⟨L, hL⟩ : ∃ L, (digs (val xs)).length = L := ⟨_, rfl⟩
 rw [hbl] at B e
 rw [hL] at e hdl ⊢
 have HB := hid B
 have hbb : bl ≤ 2251799813685248 := by omega
 have HE := hid e
 clear h B e hbl hL
 go_enter Tryz.func96, Tryz.ntmps96
 go_wp2_with fail
 refine HB.out.mono ?_
 rintro e w' ⟨rfl, rfl⟩
 go_wp2
 go_ret
 refine ⟨ycs ?_, rfl⟩
 have := HE.out
 omega
theorem yp7 (W : World) (ty : TypeId) (g n nd c : Nat) (p : Option Addr) (xs zs : List Nat) (hl : xs.length = n) (hz : zs.length = nd) (hn : nd ≤ n) (hx : Limbs W p xs) (hg : Blk W g zs) (hc : p = none → c = 0) :
  (Builtin.copy_ #[27, 27] ty #[.slice (some ⟨g, 0, none⟩) nd nd, .slice p n c]).run Tryz.prog W = .ok (goInt nd) (W.setRow g (U (xs.take nd)).toArray) := by
 obtain ⟨i0, hi, hz0, hz1, hz2⟩ := info_parts infoU32
 have hs : (Tryz.prog.info? 66).map (·.size) = some 1 := by rw [hi]; simp [hz1]
 cases p with
 | none =>
  have h0 : n = 0 := by
   apply Classical.byContradiction
   intro h
   obtain ⟨b, o, e, _⟩ := hx 0 (by omega)
   cases e
  subst h0
  have hnd : nd = 0 := by omega
  subst hnd
  have hxs : xs = [] := zfw.1 hl
  have hzs : zs = [] := zfw.1 hz
  subst hxs
  subst hzs
  rw [hc rfl, run_copy_nil Tryz.prog W 27 27 ty 66 _ _ _ Tryz.underlying27 (by rw [hs]; rfl)]
  rw [List.take_nil, setRow_self W g _ _ _ hg]
  rfl
 | some a =>
  have hsrc : ∀ j v, (U (xs.take nd))[j]? = some v → W.cell? (a.add j) = some v := by
   intro j v hv
   have hj : j < (xs.take nd).length := by
    have := (zfa.1 hv).1
    simpa [U] using this
   rw [ylo (xs.take nd) j hj] at hv
   obtain ⟨b, o, e, hcc⟩ := hx.take nd j hj
   obtain rfl := Option.some.inj e
   rw [← hv, ← hcc]
   rw [yb8]
  have hlt : (xs.take nd).length = nd := by simp; omega
  have h := run_copy_row Tryz.prog W 27 27 ty 66 g 0 nd nd a n c (U zs).toArray 66 (U (xs.take nd)) Tryz.underlying27 hs hg (by simp only [ydf, hlt]; exact (Nat.min_eq_right hn).symm) hsrc (by simp only [ydf, hlt]; simp [U, hz]) (yfh _)
  rw [h]
  have e1 : (U (xs.take nd)).length = nd := by rw [ydf, hlt]
  have e3 : (U zs).drop nd = [] := by simp [U, hz]
  simp [e1, e3]
theorem yof (w : World) (s : Bool) (p : Option Addr) (n c : Nat) (xs : List Nat) (h : Sl w p n c xs) (hs : n ≤ 70368744177664) :
  Calls Tryz.prog 74 #[.agg #[.bool s, .slice p n c]] w fun e w' => ∃ r cr, e = .returned (.agg #[.bool (ng (sg s (val xs))), .slice r (digs (sg s (val xs)).natAbs).length cr]) ∧ Za w w' r cr (sg s (val xs)) := by
 obtain ⟨W, g, hg, hW, c10, c11, c20, c21, HI⟩ := enter1 w s p n c
 have hdl := h.dl
 have N := yui W p n c xs (h.below HI.out.below) hs
 obtain ⟨L, hL⟩ : ∃ L, (digs (val xs)).length = L := ⟨_, rfl⟩
 rw [hL] at N hdl
 have HN := hid N
 have M := ycw L (by omega) W
 obtain ⟨W1, hW1⟩ : ∃ W1, W.alloc (.cells (U (List.replicate L 0)).toArray 66) = W1 := ⟨_, rfl⟩
 rw [hW1] at M
 obtain ⟨g1, hg1⟩ : ∃ g1, W.heap.size = g1 := ⟨_, rfl⟩
 rw [hg1] at M
 have B1 : Below W.heap.size W W1 := by rw [← hW1]; exact yap _ _
 have G1 : Blk W1 g1 (List.replicate L 0) := by rw [← hW1, ← hg1]; exact heap_alloc_last _ _
 have CP := fun ty => yp7 W1 ty g1 n L c p xs (List.replicate L 0) h.len (by simp) hdl ((h.below HI.out.below).below B1).lie G1 h.nil
 have htk : xs.take L = digs (val xs) := by rw [← hL]; exact yd2 h.ok
 rw [htk] at CP
 obtain ⟨W2, hW2⟩ : ∃ W2, W1.setRow g1 (U (digs (val xs))).toArray = W2 := ⟨_, rfl⟩
 have hwr : Wr W1 g1 (digs (val xs)) W2 := ⟨0, hW2.symm⟩
 rw [hW2] at CP
 have hgg : g + 1 < g1 := by rw [← hg1]; exact HI.out.lt
 have I1 := HI.out.call B1
 have HI2 : Hid (Inv w W2 (g + 1)) := by
  obtain ⟨b, r, n', c', hx⟩ := I1.box
  exact ⟨hwr.below I1.below (by have := HI.out.fresh; omega), ⟨b, r, n', c', (hwr.other (by omega)).trans hx⟩, I1.fresh⟩
 have d10 : W1.cell? ⟨g, 0, none⟩ = some (.bool s) := yac c10 B1
 have d11 : W1.cell? ⟨g, 1, none⟩ = some (.slice p n c) := yac c11 B1
 have e10 : W2.cell? ⟨g, 0, none⟩ = some (.bool s) := by rw [← hW2, cell_setRow_other _ _ _ _ (by simp; omega)]; exact d10
 have e11 : W2.cell? ⟨g, 1, none⟩ = some (.slice p n c) := by rw [← hW2, cell_setRow_other _ _ _ _ (by simp; omega)]; exact d11
 have HS2 : Hid (Sl W2 (some ⟨g1, 0, none⟩) L L (digs (val xs))) := ⟨hL, ze5 _, by unfold maxLen; omega, (fun e => by cases e), ybc _, (Wr.blk G1 hwr).limbs⟩
 have SG := hid (ycd W2 s (some ⟨g1, 0, none⟩) L L (by omega))
 rw [sg_abs, hL, ← ypr s hL]
 have HLL := hid hL
 clear h N hwr htk I1 B1 G1 hW1 hW2 hL hg1
 go_enter Tryz.func74, Tryz.ntmps74
 go_wp2_with fail
 refine HN.out.mono ?_
 rintro e w' ⟨rfl, rfl⟩
 go_wp2_with fail
 refine SG.out.mono ?_
 rintro e w3 ⟨rfl, hB3⟩
 have hI3 := hid (HI2.out.call hB3)
 obtain ⟨b3, r3, n3, c3, hx3⟩ := hI3.out.box
 have k0 := hx3.at0
 have k1 := hx3.at1
 have k2 := hx3.frozen 0
 have k3 := hx3.frozen 1
 go_wp2
 have hc0 := (hx3.set (s && decide (0 < L)) (some ⟨g1, 0, none⟩) L L).at0
 have hc1 := (hx3.set (s && decide (0 < L)) (some ⟨g1, 0, none⟩) L L).at1
 refine bodyPost_ret (by simp [results, Tryz.results74, go_sem, hc0, hc1]; try rfl) rfl ?_
 refine ⟨_, _, rfl, hI3.out.fin (w1 := w) ?_ (fun b o e => ?_) _ _⟩
 ·rw [sg_abs, HLL.out]
  exact HS2.out.below hB3
 ·simp only [Option.some.injEq, Addr.mk.injEq] at e
  omega
theorem zdl (w : World) (s : Bool) (p : Option Addr) (n c : Nat) (xs : List Nat) (h : Sl w p n c xs) (hs : n ≤ 70368744177664) :
  Calls Tryz.prog 48 #[.agg #[.bool s, .slice p n c]] w fun e w' => ∃ r cr, e = .returned (.agg #[.bool (ng (- sg s (val xs))), .slice r (digs (- sg s (val xs)).natAbs).length cr]) ∧ Za w w' r cr (- sg s (val xs)) := by
 obtain ⟨W, g, hg, hW, c10, c11, c20, c21, HI⟩ := enter1 w s p n c
 have N := yof W (!s) p n c xs (h.below HI.out.below) hs
 obtain ⟨z, hz⟩ : ∃ z, - sg s (val xs) = z := ⟨_, rfl⟩
 rw [yj0] at N
 rw [hz] at N ⊢
 obtain ⟨L, hL⟩ : ∃ L, (digs z.natAbs).length = L := ⟨_, rfl⟩
 obtain ⟨bz, hbz⟩ : ∃ bz, ng z = bz := ⟨_, rfl⟩
 rw [hL, hbz] at N ⊢
 have HN := hid N
 clear h N hz c20 c21
 go_enter Tryz.func48, Tryz.ntmps48
 go_wp2_with fail
 refine HN.out.mono ?_
 rintro e w1 ⟨r, cr, rfl, A⟩
 have hI2 := hid (HI.out.call A.below)
 obtain ⟨b3, r3, n3, c3, hx3⟩ := hI2.out.box
 have k0 := hx3.at0
 have k1 := hx3.at1
 have k2 := hx3.frozen 0
 have k3 := hx3.frozen 1
 go_wp2
 have hc0 := (hx3.set bz r L cr).at0
 have hc1 := (hx3.set bz r L cr).at1
 refine bodyPost_ret (by simp [results, Tryz.results48, go_sem, hc0, hc1]; try rfl) rfl ?_
 exact ⟨r, cr, rfl, hI2.out.fin (w1 := w) A.sl (fun b o e => zfd HI.out.lt (A.fresh b o e)) _ _⟩
theorem keepSet1 {w w1 : World} {a1 a2 : Addr} {v1 v2 : Value} {g2 : Nat} {b : Bool} {r : Option Addr} {n c : Nat}
  (h : w1.cell? a1 = some v1 ∧ w1.cell? a2 = some v2 ∧ Hid (Inv w w1 g2)) (h1 : g2 ≠ a1.block) (h2 : g2 ≠ a2.block) :
  ((w1.setCell ⟨g2, 0, none⟩ (.bool b)).setCell ⟨g2, 1, none⟩ (.slice r n c)).cell? a1 = some v1 ∧ ((w1.setCell ⟨g2, 0, none⟩ (.bool b)).setCell ⟨g2, 1, none⟩ (.slice r n c)).cell? a2 = some v2 ∧ Hid (Inv w ((w1.setCell ⟨g2, 0, none⟩ (.bool b)).setCell ⟨g2, 1, none⟩ (.slice r n c)) g2) :=
 ⟨far h.1 h1, far h.2.1 h2, Inv.set h.2.2 b r n c⟩
theorem yjg (w : World) : Limbs (w.alloc (.cells #[.int .u32 77, .int .u32 78, .int .u32 79, .int .u32 80, .int .u32 81, .int .u32 82, .int .u32 83, .int .u32 84, .int .u32 85] 66)) (some ⟨w.heap.size, 0, none⟩) [77, 78, 79, 80, 81, 82, 83, 84, 85] :=
 Blk.limbs (show Blk _ _ [77, 78, 79, 80, 81, 82, 83, 84, 85] from heap_alloc_last _ _)
structure Cp (w w' : World) (g n cr : Nat) (xs : List Nat) : Prop where
 below : Below w.heap.size w w'
 fresh : w.heap.size ≤ g
 sl : Sl w' (some ⟨g, 0, none⟩) n cr xs
 lt : g < w'.heap.size
theorem ysu {w2 : World} {base : Nat} {v' : Value} {xs : List Nat} {n : Nat} (hn : xs.length = n) (ho : Ok xs) (h : Own w2 base v' (xs ++ [77, 78, 79, 80, 81, 82, 83, 84, 85])) :
  ∃ g cr, v' = .slice (some ⟨g, 0, none⟩) (n + 9) cr ∧ base ≤ g ∧ n + 9 ≤ cr ∧ cr ≤ 9223372036854775807 ∧ g < w2.heap.size ∧ Hid (Sl w2 (some ⟨g, 0, none⟩) n cr xs) := by
 obtain ⟨g, cap, rfl, h1, h2, h3, h4, h5⟩ := h.row (by simp)
 refine ⟨g, cap, by simp [hn], h1, by simpa [hn] using h3, h4, h2, ⟨hn, by simp at h3; omega, h4, (fun e => by cases e), ho, ?_⟩⟩
 have := h5.take n
 rw [zh6 (by omega), ze9 (by omega)] at this
 exact this
theorem zeh (w : World) (s : Bool) (p : Option Addr) (n c : Nat) (xs : List Nat) (h : Sl w p n c xs) (hs : c ≤ 35184372087808) :
  Calls Tryz.prog 23 #[.agg #[.bool s, .slice p n c]] w fun e w' => ∃ gx cr, e = .returned (.agg #[.bool s, .slice (some ⟨gx, 0, none⟩) n cr]) ∧ Cp w w' gx n cr xs := by
 obtain ⟨W, g, hg, hW, c10, c11, c20, c21, HI⟩ := enter1 w s p n c
 have HX := hid h
 have HXW := hid (h.below HI.out.below)
 have hm := h.max
 have hc := h.cap
 have hcn := h.nil
 unfold maxLen at hm
 have n0 : g + 1 ≠ g := by omega
 clear h c20 c21
 cases p with
 | none =>
  have hc0 : c = 0 := hcn rfl
  subst hc0
  have hn0 : n = 0 := by omega
  subst hn0
  have hx0 : xs = [] := zfw.1 HX.out.len
  subst hx0
  clear hcn
  have hap := ynd
  go_enter Tryz.func23, Tryz.ntmps23
  go_wp2_with (at_builtin; refine ych _ rfl (.tmp 8) (.tmp 9) rfl W.heap.size _ [] rfl (Own.nil _ _) ⟨W.heap.size, 0, none⟩ 9 9 [77, 78, 79, 80, 81, 82, 83, 84, 85] rfl rfl (yjg W) (by simp) (by simp) ?_; intro v' w2 hown' hbel; obtain ⟨gx, cr, rfl, hgx, hcr, hmx, hgl, HC⟩ := ysu (n := 0) rfl Ok.nil hown'; have hBz : Below W.heap.size W w2 := ((Below.refl _ _).alloc (ze5 _) _).trans hbel; clear hown' hbel)
  have hI2 := hid (HI.out.call hBz)
  replace c10 := yac c10 hBz
  replace c11 := yac c11 hBz
  have hlt := HI.out.lt
  have i2 : (0 : Int) ≤ (cr : Int) := by omega
  obtain ⟨b3, r3, n3, c3, hx3⟩ := hI2.out.box
  have k0 := hx3.at0
  have k1 := hx3.at1
  have k2 := hx3.frozen 0
  have k3 := hx3.frozen 1
  go_wp2
  go_region_held3 (fun w' => w'.cell? ⟨g, 0, none⟩ = some (.bool s) ∧ w'.cell? ⟨g, 1, none⟩ = some (.slice none 0 0) ∧ Hid (Inv w w' (g + 1)))
   (first | exact keepSet1 (by assumption) n0 n0 | (exact ⟨c10, c11, hI2.out.drew⟩))
   (first | fail)
  go_wp2
  have hc0 := (hx3.set s (some ⟨gx, 0, none⟩) 0 cr).at0
  have hc1 := (hx3.set s (some ⟨gx, 0, none⟩) 0 cr).at1
  refine bodyPost_ret (by simp [results, Tryz.results23, go_sem, hc0, hc1]; try rfl) rfl ?_
  refine ⟨gx, cr, rfl, (hI2.out.set s _ _ _).below.drew, ?_, (yce HC.out (fun b o e => by simp only [Option.some.injEq, Addr.mk.injEq] at e; omega)).below (Below.refl _ _).drew, ?_⟩
  ·have := HI.out.below.size
   omega
  ·simpa [World.setCell] using hgl
 | some a =>
  clear hcn
  go_enter Tryz.func23, Tryz.ntmps23
  go_wp2_with (first
   | (at_builtin; refine ych _ rfl (.tmp 4) (.tmp 6) rfl W.heap.size _ [] rfl (Own.nil _ _) a n c xs rfl HXW.out.len HXW.out.lie (by simp; omega) (ze5 _) ?_; intro v1 w1 hown1 hbel1; simp only [zgj] at hown1)
   | (at_builtin; refine ych _ rfl (.tmp 8) (.tmp 9) rfl W.heap.size _ xs rfl (hown1.alloc _) ⟨w1.heap.size, 0, none⟩ 9 9 [77, 78, 79, 80, 81, 82, 83, 84, 85] rfl rfl (yjg w1) (by have := HX.out.len; omega) (by have := hbel1.size; simp; omega) ?_; intro v' w2 hown' hbel; obtain ⟨gx, cr, rfl, hgx, hcr, hmx, hgl, HC⟩ := ysu (n := n) HX.out.len HX.out.ok hown'; have hBz : Below W.heap.size W w2 := (hbel1.alloc hbel1.size _).trans hbel; clear hown' hbel hown1 hbel1))
  have hI2 := hid (HI.out.call hBz)
  replace c10 := yac c10 hBz
  replace c11 := yac c11 hBz
  have hlt := HI.out.lt
  have i1 : (0 : Int) ≤ (n : Int) := by omega
  have i2 : (n : Int) ≤ (cr : Int) := by omega
  have i3 : n ≤ cr := by omega
  obtain ⟨b3, r3, n3, c3, hx3⟩ := hI2.out.box
  have k0 := hx3.at0
  have k1 := hx3.at1
  have k2 := hx3.frozen 0
  have k3 := hx3.frozen 1
  go_wp2
  go_region_held3 (fun w' => w'.cell? ⟨g, 0, none⟩ = some (.bool s) ∧ w'.cell? ⟨g, 1, none⟩ = some (.slice (some a) n c) ∧ Hid (Inv w w' (g + 1)))
   (first | exact keepSet1 (by assumption) n0 n0 | (exact ⟨c10, c11, hI2.out.drew⟩))
   (first | fail)
  go_wp2
  have hc0 := (hx3.set s (some ⟨gx, 0, none⟩) n cr).at0
  have hc1 := (hx3.set s (some ⟨gx, 0, none⟩) n cr).at1
  refine bodyPost_ret (by simp [results, Tryz.results23, go_sem, hc0, hc1]; try rfl) rfl ?_
  refine ⟨gx, cr, rfl, (hI2.out.set s _ _ _).below.drew, ?_, (yce HC.out (fun b o e => by simp only [Option.some.injEq, Addr.mk.injEq] at e; omega)).below (Below.refl _ _).drew, ?_⟩
  ·have := HI.out.below.size
   omega
  ·simpa [World.setCell] using hgl
end Go.Proofs.YtbkobojhkhiohaaGreat
