import Derived.Test.YtdadmchlehfiiaaGreatDoorRLow
import Derived.Test.YtdadmchlehfiiaaGreatDoorZNear
/-
  2 by 2 in lowest terms is 1 by 1; its text.
-/
namespace Go.Proofs.YtdadmchlehfiiaaGreatDoor
open Go.RowKit Nt
set_option linter.unusedSimpArgs false
set_option linter.unusedVariables false
set_option maxRecDepth 20000

theorem rboxFar {w : World} {b b' n c m d : Nat} {s t : Bool} {p q : Option Addr} {v0 v1 : Value} (h : RBox w b s p n c t q m d) (hb : b ≠ b') : RBox ((w.setCell ⟨b', 0, none⟩ v0).setCell ⟨b', 1, none⟩ v1) b s p n c t q m d := by
  show _ = _
  rw [Below.heap_setCell _ _ _ _ (by simpa using hb), Below.heap_setCell _ _ _ _ (by simpa using hb)]
  exact h
theorem size_set2 (w : World) (b : Nat) (v0 v1 : Value) : ((w.setCell ⟨b, 0, none⟩ v0).setCell ⟨b, 1, none⟩ v1).heap.size = w.heap.size := by simp

theorem exact22 (w : World) (p q : Option Addr) (c d : Nat) (h : Sl w p 1 c [2]) (h' : Sl w q 1 d [2]) :
    Calls Tryz.prog 27 #[.agg #[.bool false, .slice p 1 c], .agg #[.bool false, .slice q 1 d]] w fun e w' => ∃ r cr, e = .returned (.tuple #[.agg #[.bool false, .slice r 1 cr], .int .i64 0]) ∧ Below w.heap.size w w' ∧ Sl w' r 1 cr [1] ∧ ∀ b o, r = some ⟨b, o, none⟩ → w.heap.size ≤ b := by
  refine (zexact_c w false false p q 1 c 1 d [2] [2] h h' (by decide) (by decide) (by omega)).mono ?_
  rintro e w' ⟨b, L, D, r, cr, rfl, hB, hS, hN, hl, hf⟩
  have e1 : sg (false != false) (val [2] / val [2]) = 1 := by decide
  have hn := hN.out
  rw [e1] at hn
  have hD : D = [1] := by rw [hn.dgs]; exact digs_small (by decide) (by decide)
  have hL : L = 1 := by rw [← hn.len, hD]; rfl
  have hb : b = false := by rw [hn.sgn]; decide
  subst hD hL hb
  exact ⟨r, cr, rfl, hB, hS.out, hf⟩

set_option maxHeartbeats 4000000 in
theorem lowest22 (w : World) (p q : Option Addr) (c d : Nat) (h : Sl w p 1 c [2]) (h' : Sl w q 1 d [2]) :
    Calls Tryz.prog 13 #[.agg #[.bool false, .slice p 1 c], .agg #[.bool false, .slice q 1 d]] w fun e w' => ∃ r1 k1 r2 k2, e = .returned (.agg #[.bool false, .slice r1 1 k1, .bool false, .slice r2 1 k2]) ∧ Below w.heap.size w w' ∧ Sl w' r1 1 k1 [1] ∧ Sl w' r2 1 k2 [1] ∧ (∀ b o, r1 = some ⟨b, o, none⟩ → w.heap.size ≤ b) ∧ ∀ b o, r2 = some ⟨b, o, none⟩ → w.heap.size ≤ b := by
  have B1 := below_alloc w (.cells #[.bool false, .slice p 1 c] 24)
  have B2 := below_alloc (w.alloc (.cells #[.bool false, .slice p 1 c] 24)) (.cells #[.bool false, .slice q 1 d] 24)
  have B3 := below_alloc ((w.alloc (.cells #[.bool false, .slice p 1 c] 24)).alloc (.cells #[.bool false, .slice q 1 d] 24)) (.cells #[.bool false, .slice none 0 0, .bool false, .slice none 0 0] 26)
  have X1 := ((box_alloc w false p 1 c).below B2).below B3
  have X2 := (box_alloc (w.alloc (.cells #[.bool false, .slice p 1 c] 24)) false q 1 d).below B3
  have X3 := rbox_alloc ((w.alloc (.cells #[.bool false, .slice p 1 c] 24)).alloc (.cells #[.bool false, .slice q 1 d] 24)) false none 0 0 false none 0 0
  rw [show (w.alloc (.cells #[.bool false, .slice p 1 c] 24)).heap.size = w.heap.size + 1 from by simp] at X2
  rw [show ((w.alloc (.cells #[.bool false, .slice p 1 c] 24)).alloc (.cells #[.bool false, .slice q 1 d] 24)).heap.size = w.heap.size + 1 + 1 from by simp] at X3
  have HB := hid (B1.trans ((B2.trans (B3.mono B2.size)).mono B1.size))
  obtain ⟨W, hW⟩ : ∃ W, ((w.alloc (.cells #[.bool false, .slice p 1 c] 24)).alloc (.cells #[.bool false, .slice q 1 d] 24)).alloc (.cells #[.bool false, .slice none 0 0, .bool false, .slice none 0 0] 26) = W := ⟨_, rfl⟩
  rw [hW] at X1 X2 X3 HB
  obtain ⟨g, hg⟩ : ∃ g, w.heap.size = g := ⟨_, rfl⟩
  rw [hg] at X1 X2 X3
  have a0 := X1.at0
  have a1 := X1.at1
  have b0 := X2.at0
  have b1 := X2.at1
  have HX1 := hid X1
  have HX2 := hid X2
  have HX3 := hid X3
  have Sp := hid (h.below HB.out)
  have Sq := hid (h'.below HB.out)
  have GC := hid (zgcd22 W p q c d Sp.out Sq.out)
  have EX := hid exact22
  have hWl := X3.lt
  have hgp : Hid (∀ b o, p = some ⟨b, o, none⟩ → b < g) := fun b o e => by
    obtain ⟨b', o', e', hc⟩ := h.lie 0 (by simp)
    rw [e] at e'
    simp only [Option.some.injEq, Addr.mk.injEq] at e'
    obtain ⟨rfl, rfl, _⟩ := e'
    rw [← hg]
    exact cell_some_block hc
  have hgq : Hid (∀ b o, q = some ⟨b, o, none⟩ → b < g) := fun b o e => by
    obtain ⟨b', o', e', hc⟩ := h'.lie 0 (by simp)
    rw [e] at e'
    simp only [Option.some.injEq, Addr.mk.injEq] at e'
    obtain ⟨rfl, rfl, _⟩ := e'
    rw [← hg]
    exact cell_some_block hc
  clear h h' B1 B2 B3 X1 X2 X3
  go_enter Tryz.func13, Tryz.ntmps13
  go_wp2_with fail
  refine GC.out.mono ?_
  rintro e w1 ⟨rg, kg, rfl, C1, Sg0, Fg0⟩
  have Fg := hid Fg0
  clear Fg0
  have C2 := below_alloc w1 (.cells #[.bool false, .slice rg 1 kg] 24)
  have Xg := box_alloc w1 false rg 1 kg
  obtain ⟨W1, hW1⟩ : ∃ W1, w1.alloc (.cells #[.bool false, .slice rg 1 kg] 24) = W1 := ⟨_, rfl⟩
  rw [hW1] at C2 Xg
  obtain ⟨gg, hgg⟩ : ∃ gg, w1.heap.size = gg := ⟨_, rfl⟩
  rw [hgg] at Xg
  have C12 := C1.trans (C2.mono C1.size)
  have hl1 : W.heap.size ≤ gg := by rw [← hgg]; exact C1.size
  have HXa := hid (HX1.out.below C12)
  have HXb := hid (HX2.out.below C12)
  have HXr := hid (HX3.out.below C12)
  have Sp1 := hid (Sp.out.below C12)
  have Sq1 := hid (Sq.out.below C12)
  have Sg := hid (Sg0.below C2)
  have HXg := hid Xg
  have HB1 := hid (HB.out.trans (C12.mono HB.out.size))
  have hg1 : gg < W1.heap.size := Xg.lt
  clear C1 C2 C12 Sg0 Xg hW HX1 HX2 HX3 Sp Sq GC a0 a1 b0 b1
  have a0 := HXa.out.at0
  have a1 := HXa.out.at1
  have b0 := HXb.out.at0
  have b1 := HXb.out.at1
  have g0 := HXg.out.at0
  have g1 := HXg.out.at1
  go_wp2_with fail
  refine (EX.out W1 p rg c kg Sp1.out Sg.out).mono ?_
  rintro e w2 ⟨r1, k1, rfl, C3, S1, F1⟩
  have xa := HXa.out.below C3
  have xb := HXb.out.below C3
  have xr := HXr.out.below C3
  have xg := HXg.out.below C3
  have HS1 := hid S1
  have HF1 := hid (fun b o (e : r1 = some ⟨b, o, none⟩) => Nat.lt_of_lt_of_le hg1 (F1 b o e))
  have Sq2 := hid (Sq1.out.below C3)
  have Sg2 := hid (Sg.out.below C3)
  have HB2 := hid (HB1.out.trans (C3.mono HB1.out.size))
  have hs2 := C3.size
  have k2 := xa.at0
  have k3 := xa.at1
  have k4 := xa.frozen 0
  have k5 := xa.frozen 1
  clear C3 S1 F1 a0 a1 b0 b1 g0 g1 hW1
  have v1 : g + 1 ≠ g := by omega
  have v2 : g + 1 + 1 ≠ g := by omega
  have v3 : gg ≠ g := by omega
  have xb' := boxFar (v0 := .bool false) (v1 := .slice r1 1 k1) xb v1
  have xg' := boxFar (v0 := .bool false) (v1 := .slice r1 1 k1) xg v3
  have xa' := xa.set false r1 1 k1
  have b0 := xb'.at0
  have b1 := xb'.at1
  have g0 := xg'.at0
  have g1 := xg'.at1
  have E2 := hid (EX.out _ q rg d kg (sl_set (g2 := g) (v0 := .bool false) (v1 := .slice r1 1 k1) Sq2.out (fun b o e => by have := hgq.out b o e; omega)) (sl_set (g2 := g) (v0 := .bool false) (v1 := .slice r1 1 k1) Sg2.out (fun b o e => by have := Fg.out b o e; omega)))
  have xr' := rboxFar (v0 := .bool false) (v1 := .slice r1 1 k1) xr v2
  have HS1' := hid (sl_set (g2 := g) (v0 := .bool false) (v1 := .slice r1 1 k1) HS1.out (fun b o e => by have := HF1.out b o e; omega))
  have vg : w.heap.size ≤ g := by omega
  have HB3 := hid ((HB2.out.setCell (p := ⟨g, 0, none⟩) vg (.bool false)).setCell (p := ⟨g, 1, none⟩) vg (.slice r1 1 k1))
  have hsz := size_set2 w2 g (.bool false) (.slice r1 1 k1)
  have HXa2 := hid xa'
  have HXb2 := hid xb'
  have HXr2 := hid xr'
  clear xa xb xr xg xg' xa' xb' xr' HXa HXb HXr HXg Sp1 Sq1 Sg Sq2 Sg2 HS1 HB1 HB2
  go_wp2_with fail
  refine E2.out.mono ?_
  rintro e w3 ⟨r2, k2', rfl, C4, S2, F2⟩
  have ya := HXa2.out.below C4
  have yb := HXb2.out.below C4
  have yr := HXr2.out.below C4
  have HS2 := hid S2
  have HS3 := hid (HS1'.out.below C4)
  have HF2 := hid (fun b o (e : r2 = some ⟨b, o, none⟩) => F2 b o e)
  have HB4 := hid (HB3.out.trans (C4.mono HB3.out.size))
  have v4 : g ≠ g + 1 := by omega
  have v5 : g + 1 + 1 ≠ g + 1 := by omega
  have j0 := yb.at0
  have j1 := yb.at1
  have j2 := yb.frozen 0
  have j3 := yb.frozen 1
  have ya' := boxFar (v0 := .bool false) (v1 := .slice r2 1 k2') ya v4
  have yb' := yb.set false r2 1 k2'
  have yr' := rboxFar (v0 := .bool false) (v1 := .slice r2 1 k2') yr v5
  have i0 := ya'.at0
  have i1 := ya'.at1
  have i2 := yb'.at0
  have i3 := yb'.at1
  have i4 := yr'.at0
  have i5 := yr'.at1
  have i6 := yr'.at2
  have i7 := yr'.at3
  have i8 := yr'.frozen 0
  have i9 := yr'.frozen 1
  have i10 := yr'.frozen 2
  have i11 := yr'.frozen 3
  clear C4 S2 F2 E2 EX
  go_wp2
  have hc := yr'.set false r1 1 k1 false r2 1 k2'
  have hc0 := hc.at0
  have hc1 := hc.at1
  have hc2 := hc.at2
  have hc3 := hc.at3
  refine bodyPost_ret (by simp [results, Tryz.results13, go_sem, hc0, hc1, hc2, hc3]; try rfl) rfl ?_
  have va : w.heap.size ≤ g + 1 := by omega
  have vb : w.heap.size ≤ g + 1 + 1 := by omega
  refine ⟨r1, k1, r2, k2', rfl, below_set4 ((HB4.out.setCell va _).setCell va _) vb, sl_set4 (sl_set HS3.out (fun b o e => by have := HF1.out b o e; omega)) (fun b o e => by have := HF1.out b o e; omega), sl_set4 (sl_set HS2.out (fun b o e => by have := HF2.out b o e; omega)) (fun b o e => by have := HF2.out b o e; omega), fun b o e => by have := HF1.out b o e; omega, fun b o e => by have := HF2.out b o e; omega⟩
end Go.Proofs.YtdadmchlehfiiaaGreatDoor

/-
  What the law's awake calls.
-/
namespace Go.Proofs.YtdadmchlehfiiaaGreatDoor
open Go.RowKit Nt
set_option linter.unusedSimpArgs false
set_option linter.unusedVariables false
set_option maxRecDepth 20000

theorem near32 (w : World) (p q : Option Addr) (c d : Nat) (h : Sl w p 1 c [3]) (h' : Sl w q 1 d [2]) :
    Calls Tryz.prog 32 #[.agg #[.bool true, .slice p 1 c], .agg #[.bool false, .slice q 1 d]] w fun e w' => ∃ r cr, e = .returned (.tuple #[.agg #[.bool true, .slice r 1 cr], .int .i64 0]) ∧ Below w.heap.size w w' ∧ Sl w' r 1 cr [1] ∧ ∀ b o, r = some ⟨b, o, none⟩ → w.heap.size ≤ b := by
  refine (znear_up w true false p q 1 c 1 d [3] [2] h h' (by decide) (by omega) (by omega) (by decide)).mono ?_
  rintro e w' ⟨b, L, D, r, cr, rfl, hB, hS, hN, hl, hf⟩
  have e1 : fl (sg true (val [3])) (sg false (val [2])) + 1 = -1 := by decide
  have hn := hN.out
  rw [e1] at hn
  have hD : D = [1] := by rw [hn.dgs]; exact digs_small (by decide) (by decide)
  have hL : L = 1 := by rw [← hn.len, hD]; rfl
  have hb : b = true := by rw [hn.sgn]; decide
  subst hD hL hb
  exact ⟨r, cr, rfl, hB, hS.out, hf⟩

set_option maxHeartbeats 4000000 in
theorem ratnear_c (w : World) (p q : Option Addr) (c d : Nat) (h : Sl w p 1 c [3]) (h' : Sl w q 1 d [2]) :
    Calls Tryz.prog 18 #[.agg #[.bool true, .slice p 1 c, .bool false, .slice q 1 d]] w fun e w' => ∃ r cr, e = .returned (.tuple #[.agg #[.bool true, .slice r 1 cr], .int .i64 0]) ∧ Below w.heap.size w w' ∧ Sl w' r 1 cr [1] := by
  have B1 := below_alloc w (.cells #[.bool true, .slice p 1 c, .bool false, .slice q 1 d] 26)
  have B2 := below_alloc (w.alloc (.cells #[.bool true, .slice p 1 c, .bool false, .slice q 1 d] 26)) (.cells #[.bool false, .slice none 0 0] 24)
  have X1 := (rbox_alloc w true p 1 c false q 1 d).below B2
  have X2 := box_alloc (w.alloc (.cells #[.bool true, .slice p 1 c, .bool false, .slice q 1 d] 26)) false none 0 0
  rw [show (w.alloc (.cells #[.bool true, .slice p 1 c, .bool false, .slice q 1 d] 26)).heap.size = w.heap.size + 1 from by simp] at X2
  have HB := hid (B1.trans (B2.mono B1.size))
  obtain ⟨W, hW⟩ : ∃ W, (w.alloc (.cells #[.bool true, .slice p 1 c, .bool false, .slice q 1 d] 26)).alloc (.cells #[.bool false, .slice none 0 0] 24) = W := ⟨_, rfl⟩
  rw [hW] at X1 X2 HB
  obtain ⟨g, hg⟩ : ∃ g, w.heap.size = g := ⟨_, rfl⟩
  rw [hg] at X1 X2
  have B3 := below_alloc W (.cells #[.bool true, .slice p 1 c, .bool false, .slice q 1 d] 26)
  have HB3 := hid (HB.out.trans (B3.mono HB.out.size))
  have MB := hid (mayBe1 _ _ true p 1 c false q 1 d [2] (rbox_alloc W true p 1 c false q 1 d) (h'.below HB3.out) (by omega) true (by decide))
  have a0 := X1.at0
  have a1 := X1.at1
  have a2 := X1.at2
  have a3 := X1.at3
  have X1' := X1.below B3
  have X2' := X2.below B3
  have NR : Hid (∀ W', Below w.heap.size w W' → _) := fun W' hb => near32 W' p q c d (h.below hb) (h'.below hb)
  have HX1 := hid X1'
  have HX2 := hid X2'
  clear h h' B1 B2 B3 X1 X2 X1' X2'
  go_enter Tryz.func18, Tryz.ntmps18
  go_wp2_with fail
  refine MB.out.mono ?_
  rintro e w1 ⟨rfl, C1⟩
  have x1 := HX1.out.below C1
  have HXr := hid (HX2.out.below C1)
  replace a0 := x1.at0
  replace a1 := x1.at1
  replace a2 := x1.at2
  replace a3 := x1.at3
  have HB4 := hid (HB3.out.trans (C1.mono HB3.out.size))
  have N1 := hid (NR.out w1 HB4.out)
  have hlt := HXr.out.lt
  clear C1 x1 HX1 HX2 MB NR hW
  go_wp2_with fail
  refine N1.out.mono ?_
  rintro e w2 ⟨r, cr, rfl, C2, S2, F2⟩
  have x3 := HXr.out.below C2
  have HS := hid S2
  have HF := hid F2
  have HB5 := hid (HB4.out.trans (C2.mono HB4.out.size))
  have k0 := x3.at0
  have k1 := x3.at1
  have k2 := x3.frozen 0
  have k3 := x3.frozen 1
  clear C2 S2 F2 N1
  go_wp2
  have hc := x3.set true r 1 cr
  have hc0 := hc.at0
  have hc1 := hc.at1
  refine bodyPost_ret (by simp [results, Tryz.results18, go_sem, hc0, hc1]; try rfl) rfl ?_
  have va : w.heap.size ≤ g + 1 := by omega
  exact ⟨r, cr, rfl, (HB5.out.setCell va _).setCell va _, sl_set HS.out (fun b o e => by have := HF.out b o e; omega)⟩

set_option maxHeartbeats 4000000 in
theorem rattext_c (w : World) (p q : Option Addr) (c d : Nat) (h : Sl w p 1 c [2]) (h' : Sl w q 1 d [2]) :
    Calls Tryz.prog 20 #[.agg #[.bool false, .slice p 1 c, .bool false, .slice q 1 d]] w fun e w' => e = .returned (.tuple #[.string ⟨#[49]⟩, .int .i64 0]) ∧ Below w.heap.size w w' := by
  have B1 := below_alloc w (.cells #[.bool false, .slice p 1 c, .bool false, .slice q 1 d] 26)
  have X1 := rbox_alloc w false p 1 c false q 1 d
  obtain ⟨W, hW⟩ : ∃ W, w.alloc (.cells #[.bool false, .slice p 1 c, .bool false, .slice q 1 d] 26) = W := ⟨_, rfl⟩
  rw [hW] at B1 X1
  have HB := hid B1
  obtain ⟨g, hg⟩ : ∃ g, w.heap.size = g := ⟨_, rfl⟩
  rw [hg] at X1
  have B3 := below_alloc W (.cells #[.bool false, .slice p 1 c, .bool false, .slice q 1 d] 26)
  have HB3 := hid (HB.out.trans (B3.mono HB.out.size))
  have MB := hid (mayBe1 _ _ false p 1 c false q 1 d [2] (rbox_alloc W false p 1 c false q 1 d) (h'.below HB3.out) (by omega) true (by decide))
  have a0 := X1.at0
  have a1 := X1.at1
  have a2 := X1.at2
  have a3 := X1.at3
  have HX1 := hid (X1.below B3)
  have LW : Hid (∀ W', Below w.heap.size w W' → _) := fun W' hb => lowest22 W' p q c d (h.below hb) (h'.below hb)
  clear h h' B1 B3 X1
  go_enter Tryz.func20, Tryz.ntmps20
  go_wp2_with fail
  refine MB.out.mono ?_
  rintro e w1 ⟨rfl, C1⟩
  have HXr := hid (HX1.out.below C1)
  replace a0 := HXr.out.at0
  replace a1 := HXr.out.at1
  replace a2 := HXr.out.at2
  replace a3 := HXr.out.at3
  have HB4 := hid (HB3.out.trans (C1.mono HB3.out.size))
  have N1 := hid (LW.out w1 HB4.out)
  have hlt := HXr.out.lt
  clear C1 HX1 MB LW hW
  go_wp2_with fail
  refine N1.out.mono ?_
  rintro e w2 ⟨r1, k1, r2, k2, rfl, C2, S1, S2, F1, F2⟩
  have x3 := HXr.out.below C2
  have HB5 := hid (HB4.out.trans (C2.mono HB4.out.size))
  have i0 := x3.at0
  have i1 := x3.at1
  have i2 := x3.at2
  have i3 := x3.at3
  have i4 := x3.frozen 0
  have i5 := x3.frozen 1
  have i6 := x3.frozen 2
  have i7 := x3.frozen 3
  have hx := x3.set false r1 1 k1 false r2 1 k2
  have HS1 := hid (sl_set4 (g2 := g) (v0 := .bool false) (v1 := .slice r1 1 k1) (v2 := .bool false) (v3 := .slice r2 1 k2) S1 (fun b o e => by have := F1 b o e; omega))
  have HS2 := hid (sl_set4 (g2 := g) (v0 := .bool false) (v1 := .slice r1 1 k1) (v2 := .bool false) (v3 := .slice r2 1 k2) S2 (fun b o e => by have := F2 b o e; omega))
  have va : w.heap.size ≤ g := by omega
  have HB6 := hid (below_set4 (g := g) (v0 := .bool false) (v1 := .slice r1 1 k1) (v2 := .bool false) (v3 := .slice r2 1 k2) HB5.out va)
  obtain ⟨W2, hW2⟩ : ∃ W2, (((w2.setCell ⟨g, 0, none⟩ (.bool false)).setCell ⟨g, 1, none⟩ (.slice r1 1 k1)).setCell ⟨g, 2, none⟩ (.bool false)).setCell ⟨g, 3, none⟩ (.slice r2 1 k2) = W2 := ⟨_, rfl⟩
  rw [hW2] at hx HS1 HS2 HB6
  have j0 := hx.at0
  have j1 := hx.at1
  have j2 := hx.at2
  have j3 := hx.at3
  clear C2 S1 S2 F1 F2 N1 a0 a1 a2 a3
  go_wp2
  clear hW2 i0 i1 i2 i3 i4 i5 i6 i7
  go_region_held3 (fun w' => w'.cell? ⟨g, 0, none⟩ = some (.bool false) ∧ w'.cell? ⟨g, 1, none⟩ = some (.slice r1 1 k1) ∧ w'.cell? ⟨g, 2, none⟩ = some (.bool false) ∧ w'.cell? ⟨g, 3, none⟩ = some (.slice r2 1 k2) ∧ Hid (Below w.heap.size w w'))
    (first | (with_reducible exact keep4b (by assumption) hBz) | (exact ⟨j0, j1, j2, j3, HB6.out.drew⟩) | fail)
    (first | (go_at_call 34; refine (zof1 _).mono ?_; rintro e wo ⟨ro, ko, rfl, hBz, So⟩; have T1 := hid ((HS1.out.below (Below.refl _ _).drew).below hBz); have T2 := hid ((HS2.out.below (Below.refl _ _).drew).below hBz))
           | (go_at_call 33; refine (zcompare_c _ false false r2 ro 1 k2 1 ko [1] [1] T2.out So.out (by omega) (by omega)).mono ?_; rintro e wp ⟨rfl, hBz⟩; have HT := hid (keep4b (w := w) (by assumption) hBz); have T3 := hid (T1.out.below hBz)))
  obtain ⟨m0, m1, _, _, HB7⟩ := HT.out
  have TX := hid (ztext1 wp r1 1 k1 [1] T3.out rfl (by omega))
  go_wp2_with (go_at_call 35; refine TX.out.mono ?_; rintro e wx ⟨rfl, hBx⟩)
  go_ret2
  have HF := HB7.out.trans (hBx.mono HB7.out.size)
  first | exact ⟨rfl, HF⟩ | exact ⟨rfl, by rw [← hg]; exact HF⟩

theorem half3 (w : World) : Calls Tryz.prog 19 #[.int .i64 (-3)] w fun e w' => ∃ r1 k1 r2 k2, e = .returned (.agg #[.bool true, .slice r1 1 k1, .bool false, .slice r2 1 k2]) ∧ Below w.heap.size w w' ∧ Sl w' r1 1 k1 [3] ∧ Sl w' r2 1 k2 [2] := by
  have := half_c w (-3) 3 (by decide) (by omega) (by omega)
  rwa [show ng (-3) = true from by decide] at this
theorem half2 (w : World) : Calls Tryz.prog 19 #[.int .i64 2] w fun e w' => ∃ r1 k1 r2 k2, e = .returned (.agg #[.bool false, .slice r1 1 k1, .bool false, .slice r2 1 k2]) ∧ Below w.heap.size w w' ∧ Sl w' r1 1 k1 [2] ∧ Sl w' r2 1 k2 [2] := by
  have := half_c w 2 2 (by decide) (by omega) (by omega)
  rwa [show ng 2 = false from by decide] at this
theorem rof1 (w : World) : Calls Tryz.prog 21 #[.int .i64 (-1)] w fun e w' => ∃ r cr, e = .returned (.agg #[.bool true, .slice r 1 cr]) ∧ Below w.heap.size w w' ∧ Hid (Sl w' r 1 cr [1]) := by
  refine (zrof_c w (-1) (by omega) (by omega)).mono ?_
  rintro e w' ⟨r, cr, rfl, Z⟩
  have d : digs (-1 : Int).natAbs = [1] := digs_small (by decide) (by decide)
  have hs := Z.sl
  rw [d] at hs ⊢
  exact ⟨r, cr, by rw [show ng (-1) = true from by decide]; rfl, Z.below, hs⟩
theorem keepA2 {w w1 w2 : World} {a1 a2 : Addr} {v1 v2 : Value} (h : w1.cell? a1 = some v1 ∧ w1.cell? a2 = some v2 ∧ Hid (Below w.heap.size w w1)) (hb : Below w1.heap.size w1 w2) :
    w2.cell? a1 = some v1 ∧ w2.cell? a2 = some v2 ∧ Hid (Below w.heap.size w w2) := ⟨cell_below h.1 hb, cell_below h.2.1 hb, Below.trans h.2.2 (hb.mono (Below.size h.2.2))⟩

set_option maxHeartbeats 4000000 in
/-- awake: true. -/
theorem rawake_c (w : World) : Calls Tryz.prog 8 #[] w fun e w' => e = .returned (.bool true) ∧ Below w.heap.size w w' := by
  have H3 := hid half3
  have H2 := hid half2
  have RN := hid ratnear_c
  have RT := hid rattext_c
  go_enter Tryz.func8, Tryz.ntmps8
  go_wp2_with fail
  refine (H3.out _).mono ?_
  rintro e w1 ⟨r1, k1, r2, k2, rfl, C1, S1, S2⟩
  have HB1 := hid C1
  have N1 := hid (RN.out w1 r1 r2 k1 k2 S1 S2)
  clear C1 S1 S2 H3 RN
  go_wp2_with fail
  refine N1.out.mono ?_
  rintro e w2 ⟨rn, kn, rfl, C2, Sn0⟩
  have C3 := below_alloc w2 (.cells #[.bool true, .slice rn 1 kn] 24)
  have Xn := box_alloc w2 true rn 1 kn
  obtain ⟨W2, hW2⟩ : ∃ W2, w2.alloc (.cells #[.bool true, .slice rn 1 kn] 24) = W2 := ⟨_, rfl⟩
  rw [hW2] at C3 Xn
  obtain ⟨gn, hgn⟩ : ∃ gn, w2.heap.size = gn := ⟨_, rfl⟩
  rw [hgn] at Xn
  have HXn := hid Xn
  have Sn := hid (Sn0.below C3)
  have C23 := C2.trans (C3.mono C2.size)
  have HB2 := hid (HB1.out.trans (C23.mono HB1.out.size))
  clear C2 C3 C23 Xn Sn0 N1 HB1
  go_wp2_with fail
  refine (H2.out _).mono ?_
  rintro e w3 ⟨r3, k3, r4, k4, rfl, C4, S3, S4⟩
  have HX3 := hid (HXn.out.below C4)
  have Sn3 := hid (Sn.out.below C4)
  have HB3 := hid (HB2.out.trans (C4.mono HB2.out.size))
  have N2 := hid (RT.out w3 r3 r4 k3 k4 S3 S4)
  clear C4 S3 S4 H2 RT HXn Sn HB2 hW2
  go_wp2_with fail
  refine N2.out.mono ?_
  rintro e w4 ⟨rfl, C5⟩
  have HX4 := hid (HX3.out.below C5)
  have Sn4 := hid (Sn3.out.below C5)
  have HB4 := hid (HB3.out.trans (C5.mono HB3.out.size))
  have x0 := HX4.out.at0
  have x1 := HX4.out.at1
  clear C5 N2 HX3 Sn3 HB3
  go_wp2
  go_region_held3 (fun w' => w'.cell? ⟨gn, 0, none⟩ = some (.bool true) ∧ w'.cell? ⟨gn, 1, none⟩ = some (.slice rn 1 kn) ∧ Hid (Below w.heap.size w w'))
    (first | (with_reducible exact keepA2 (by assumption) hBz) | (exact ⟨x0, x1, HB4.out.drew⟩) | fail)
    (first | (go_at_call 21; refine (rof1 _).mono ?_; rintro e wo ⟨ro, ko, rfl, hBz, So⟩; have T1 := hid ((Sn4.out.below (Below.refl _ _).drew).below hBz))
           | (go_at_call 17; refine (whole_c _ true rn ro 1 kn 1 ko [1] T1.out So.out).mono ?_; rintro e wp ⟨rfl, hBz⟩; have HT := hid (keepA2 (w := w) (by assumption) hBz)))
  obtain ⟨_, _, HB5⟩ := HT.out
  go_wp2
  go_ret
  exact ⟨rfl, HB5.out⟩
end Go.Proofs.YtdadmchlehfiiaaGreatDoor
