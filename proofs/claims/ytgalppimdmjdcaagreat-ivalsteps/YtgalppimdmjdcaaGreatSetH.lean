import Derived.Test.YtgalppimdmjdcaaGreatSetB
import Derived.Test.YtgalppimdmjdcaaGreatSetK
import Derived.Test.YtgalppimdmjdcaaGreatSetE
import Derived.Laws.Append
import Derived.Laws.IdiomStrings
import Derived.Test.YtgalppimdmjdcaaGreatSetW
import Derived.Test.YtgalppimdmjdcaaGreatRHalf
/-
  The text of 1.
-/
namespace Go.Proofs.YtgalppimdmjdcaaGreat
open Go.RowKit Nt
set_option linter.unusedSimpArgs false
set_option linter.unusedVariables false
set_option maxRecDepth 20000

theorem one_cell (w : World) (a : Value) (Z : Array Value) (t : TypeId) : (w.alloc (.cells (#[a] ++ Z) t)).drew.cell? ⟨w.heap.size, 0, none⟩ = some a := by
  have hl := heap_alloc_last w (.cells (#[a] ++ Z) t)
  show (w.alloc (.cells (#[a] ++ Z) t)).cell? ⟨w.heap.size, 0, none⟩ = some a
  simp only [World.cell?]
  rw [hl]
  show (#[a] ++ Z)[0]? = _
  rw [Array.getElem?_append_left (by simp)]
  rfl

theorem zero_one {Z : List Nat} (h : Z.length = 1) (hv : val Z = 0) : Z = [0] := by
  match Z, h with
  | [x], _ =>
    simp [val] at hv
    rw [hv]
def lenV : Value → Nat
  | .slice _ n _ => n
  | _ => 0

end Go.Proofs.YtgalppimdmjdcaaGreat

/-
  The greatest divisor of 2 and 2; 2 by 2 in lowest terms; its text.
-/
namespace Go.Proofs.YtgalppimdmjdcaaGreat
open Go.RowKit Nt
set_option linter.unusedSimpArgs false
set_option linter.unusedVariables false
set_option maxRecDepth 20000

theorem gcdw_c (w : World) : Calls Tryz.prog 127 #[.int .u64 2, .int .u64 0] w fun e w' => e = .returned (.int .u64 2) ∧ w' = w := by
  go_enter Tryz.func127, Tryz.ntmps127
  go_wp2
  go_loopw [0, 1] (fun a b wr => a = .int .u64 2 ∧ b = .int .u64 0 ∧ wr = w) (fun _ _ _ => 0)
  case atStart => exact ⟨rfl, rfl, rfl⟩
  case round =>
    obtain ⟨rfl, rfl, rfl⟩ := hrel
    go_wp2
    go_ret
    exact ⟨rfl, rfl⟩

set_option maxHeartbeats 2000000 in
theorem gcd22 (w : World) (p q : Option Addr) (c d : Nat) (h : Sl w p 1 c [2]) (h' : Sl w q 1 d [2]) :
    Calls Tryz.prog 117 #[.slice p 1 c, .slice q 1 d] w fun e w' => ∃ r cr, e = .returned (.slice r 1 cr) ∧ Below w.heap.size w w' ∧ Sl w' r 1 cr [2] ∧ ∀ b o, r = some ⟨b, o, none⟩ → w.heap.size ≤ b := by
  have d2 : digs 2 = [2] := digs_small (by omega) (by omega)
  have T1 := hid (trim_s w p 1 c 1 [2] (by rw [show val [2] = 2 from rfl, d2]; rfl) h)
  have T2 := hid (trim_s w q 1 d 1 [2] (by rw [show val [2] = 2 from rfl, d2]; rfl) h')
  have CM := cmp_s w p q 1 c 1 d [2] [2] h h'
  rw [show cmpN (val [2]) (val [2]) = 0 from rfl] at CM
  have HCM := hid CM
  have DV := fun nq => div_c (w.drewN nq) p q 1 c 1 d [2] [2] (h.below (below_drewN' (Below.refl _ _) nq)) (h'.below (below_drewN' (Below.refl _ _) nq)) (by decide) (by omega)
  rw [show val [2] / val [2] = 1 from rfl, show val [2] % val [2] = 0 from rfl, show (digs 0).length = 0 from rfl, show (digs 1).length = 1 from by rw [digs_small (by omega) (by omega)]; rfl] at DV
  have HDV := hid DV
  have HY := hid h'
  have GW := hid (fun W => gcdw_c W)
  clear h h' CM DV
  go_enter Tryz.func117, Tryz.ntmps117
  go_wp2_with fail
  refine T1.out.mono ?_
  rintro e w' ⟨rfl, rfl⟩
  go_wp2_with fail
  refine T2.out.mono ?_
  rintro e w'' ⟨rfl, rfl⟩
  go_wp2_with fail
  refine HCM.out.mono ?_
  rintro e w1 ⟨rfl, nq, rfl⟩
  go_wp2_with fail
  obtain ⟨wq, hwq⟩ : ∃ wq, w''.drewN nq = wq := ⟨_, rfl⟩
  have HD := hid (HDV.out nq)
  rw [hwq] at HD
  have HB0 : Hid (Below w''.heap.size w'' wq) := by rw [← hwq]; exact below_drewN' (Below.refl _ _) nq
  rw [hwq]
  clear HDV HCM T1 T2 hwq
  go_loopw [0, 1] (fun a b wr => a = .slice p 1 c ∧ b = .slice q 1 d ∧ wr = wq) (fun _ _ _ => 0)
  case atStart => exact ⟨rfl, rfl, rfl⟩
  case round =>
    obtain ⟨rfl, rfl, rfl⟩ := hrel
    go_wp2_with (go_at_call 118; refine HD.out.mono ?_; rintro e w2 ⟨rq, cq, rr, cr, rfl, R1, R2, T12⟩; have HB1 := hid R1.below; have W1 := hid (word_c w2 q 1 d [2] ((HY.out.below HB0.out).below R1.below) (by omega)); have W2 := hid (word_c w2 rr 0 cr [] (by have := R2.sl; exact this) (by omega)); have OW := hid (ofWord_i w2 2 2 rfl (by omega)); clear R1 R2 T12)
    rw [show val [2] = 2 from rfl] at W1
    rw [show val [] = 0 from rfl] at W2
    refine W1.out.mono ?_
    rintro e w3 ⟨rfl, rfl⟩
    go_wp2_with fail
    refine W2.out.mono ?_
    rintro e w4 ⟨rfl, rfl⟩
    go_wp2_with fail
    refine (GW.out _).mono ?_
    rintro e w5 ⟨rfl, rfl⟩
    go_wp2_with fail
    refine OW.out.mono ?_
    rintro e w6 ⟨r, cr', rfl, R⟩
    have HS : Hid (Sl w6 r 1 cr' [2]) := by have := R.sl; rwa [d2] at this
    have HF := hid (fun b o (e : r = some ⟨b, o, none⟩) => (R.own b o e).2.1)
    have HB2 := hid (HB1.out.trans (R.below.mono HB1.out.size))
    have HB3 := hid (HB0.out.trans (HB2.out.mono HB0.out.size))
    have hsz := HB0.out.size
    have hsz1 := HB1.out.size
    rw [d2]
    clear R
    go_wp2
    go_ret
    exact ⟨r, cr', rfl, HB3.out, HS.out, fun b o e => by have := HF.out b o e; omega⟩

set_option maxHeartbeats 2000000 in
theorem zgcd22 (w : World) (p q : Option Addr) (c d : Nat) (h : Sl w p 1 c [2]) (h' : Sl w q 1 d [2]) :
    Calls Tryz.prog 97 #[.agg #[.bool false, .slice p 1 c], .agg #[.bool false, .slice q 1 d]] w fun e w' => ∃ r cr, e = .returned (.agg #[.bool false, .slice r 1 cr]) ∧ Below w.heap.size w w' ∧ Sl w' r 1 cr [2] ∧ ∀ b o, r = some ⟨b, o, none⟩ → w.heap.size ≤ b := by
  obtain ⟨W, g, hg, hW, a0, a1, b0, b1, _, _, HI⟩ := enter2 w false p 1 c false q 1 d
  have GC := hid (gcd22 W p q c d (h.below HI.out.below) (h'.below HI.out.below))
  have hgl := HI.out.lt
  clear h h'
  go_enter Tryz.func97, Tryz.ntmps97
  go_wp2_with fail
  refine GC.out.mono ?_
  rintro e w1 ⟨r, cr, rfl, C1, S1, F1⟩
  have HI1 := hid (HI.out.call C1)
  have HS := hid S1
  have HF := hid F1
  clear C1 S1 F1 GC a0 a1 b0 b1
  go_wp2_with (go_at_call 68; refine (signed_c _ false r 1 cr (Nat.le_trans HS.out.cap HS.out.max)).mono ?_; rintro e w2 ⟨rfl, hBz⟩; have hI2 := hid (HI1.out.call hBz); have HS2 := hid (HS.out.below hBz); obtain ⟨b3, r3, n3, c3, hx3⟩ := hI2.out.box; have k0 := hx3.at0; have k1 := hx3.at1; have k2 := hx3.frozen 0; have k3 := hx3.frozen 1)
  have hc0 := fun b => (hx3.set b r 1 cr).at0
  have hc1 := fun b => (hx3.set b r 1 cr).at1
  refine bodyPost_ret (by simp [results, Tryz.results97, go_sem, hc0, hc1]; try rfl) rfl ?_
  exact ⟨r, cr, by simp, (hI2.out.set _ _ _ _).below, sl_set HS2.out (fun b o e => by have := HF.out b o e; omega), fun b o e => by have := HF.out b o e; omega⟩
end Go.Proofs.YtgalppimdmjdcaaGreat

/-
  zint.Near, where the rest is a half or more.
-/
namespace Go.Proofs.YtgalppimdmjdcaaGreat
open Go.RowKit Nt
set_option linter.unusedSimpArgs false
set_option linter.unusedVariables false
set_option maxRecDepth 20000

theorem zof1 (w : World) : Calls Tryz.prog 36 #[.int .i64 1] w fun e w' => ∃ r cr, e = .returned (.agg #[.bool false, .slice r 1 cr]) ∧ Below w.heap.size w w' ∧ Hid (Sl w' r 1 cr [1]) := by
  refine (zof_c w 1 (by omega) (by omega)).mono ?_
  rintro e w' ⟨r, cr, rfl, Z⟩
  have d : digs (1 : Int).natAbs = [1] := digs_small (by decide) (by decide)
  have hs := Z.sl
  rw [d] at hs ⊢
  exact ⟨r, cr, rfl, Z.below, hs⟩
theorem invS4 {A B C D : Prop} {w w' : World} {g2 : Nat} (h : A ∧ B ∧ C ∧ D ∧ Hid (Inv w w' g2)) : Inv w w' g2 := h.2.2.2.2

end Go.Proofs.YtgalppimdmjdcaaGreat

/-
  2 by 2 in lowest terms is 1 by 1; its text.
-/
namespace Go.Proofs.YtgalppimdmjdcaaGreat
open Go.RowKit Nt
set_option linter.unusedSimpArgs false
set_option linter.unusedVariables false
set_option maxRecDepth 20000

theorem rboxFar {w : World} {b b' n c m d : Nat} {s t : Bool} {p q : Option Addr} {v0 v1 : Value} (h : RBox w b s p n c t q m d) (hb : b ≠ b') : RBox ((w.setCell ⟨b', 0, none⟩ v0).setCell ⟨b', 1, none⟩ v1) b s p n c t q m d := by
  show _ = _
  rw [Below.heap_setCell _ _ _ _ (by simpa using hb), Below.heap_setCell _ _ _ _ (by simpa using hb)]
  exact h
theorem size_set2 (w : World) (b : Nat) (v0 v1 : Value) : ((w.setCell ⟨b, 0, none⟩ v0).setCell ⟨b, 1, none⟩ v1).heap.size = w.heap.size := by simp

theorem exact22 (w : World) (p q : Option Addr) (c d : Nat) (h : Sl w p 1 c [2]) (h' : Sl w q 1 d [2]) :
    Calls Tryz.prog 98 #[.agg #[.bool false, .slice p 1 c], .agg #[.bool false, .slice q 1 d]] w fun e w' => ∃ r cr, e = .returned (.tuple #[.agg #[.bool false, .slice r 1 cr], .int .i64 0]) ∧ Below w.heap.size w w' ∧ Sl w' r 1 cr [1] ∧ ∀ b o, r = some ⟨b, o, none⟩ → w.heap.size ≤ b := by
  refine (zexact_c w false false p q 1 c 1 d [2] [2] h h' (by decide) (by decide) (by omega)).mono ?_
  rintro e w' ⟨b, L, D, r, cr, rfl, hB, hS, hN, hl, hf⟩
  have e1 : sg (false != false) (val [2] / val [2]) = 1 := by decide
  have hn := hN.out
  rw [e1] at hn
  have hD : D = [1] := by rw [hn.dgs]; exact digs_small (by decide) (by decide)
  have hL : L = 1 := by rw [← hn.len, hD]; rfl
  have hb : b = false := by rw [hn.sgn]; decide
  subst hD hL hb
  exact ⟨r, cr, rfl, hB, hS.out, hf⟩

set_option maxHeartbeats 4000000 in
theorem lowest22 (w : World) (p q : Option Addr) (c d : Nat) (h : Sl w p 1 c [2]) (h' : Sl w q 1 d [2]) :
    Calls Tryz.prog 74 #[.agg #[.bool false, .slice p 1 c], .agg #[.bool false, .slice q 1 d]] w fun e w' => ∃ r1 k1 r2 k2, e = .returned (.agg #[.bool false, .slice r1 1 k1, .bool false, .slice r2 1 k2]) ∧ Below w.heap.size w w' ∧ Sl w' r1 1 k1 [1] ∧ Sl w' r2 1 k2 [1] ∧ (∀ b o, r1 = some ⟨b, o, none⟩ → w.heap.size ≤ b) ∧ ∀ b o, r2 = some ⟨b, o, none⟩ → w.heap.size ≤ b := by
  have B1 := below_alloc w (.cells #[.bool false, .slice p 1 c] 27)
  have B2 := below_alloc (w.alloc (.cells #[.bool false, .slice p 1 c] 27)) (.cells #[.bool false, .slice q 1 d] 27)
  have B3 := below_alloc ((w.alloc (.cells #[.bool false, .slice p 1 c] 27)).alloc (.cells #[.bool false, .slice q 1 d] 27)) (.cells #[.bool false, .slice none 0 0, .bool false, .slice none 0 0] 29)
  have X1 := ((box_alloc w false p 1 c).below B2).below B3
  have X2 := (box_alloc (w.alloc (.cells #[.bool false, .slice p 1 c] 27)) false q 1 d).below B3
  have X3 := rbox_alloc ((w.alloc (.cells #[.bool false, .slice p 1 c] 27)).alloc (.cells #[.bool false, .slice q 1 d] 27)) false none 0 0 false none 0 0
  rw [show (w.alloc (.cells #[.bool false, .slice p 1 c] 27)).heap.size = w.heap.size + 1 from by simp] at X2
  rw [show ((w.alloc (.cells #[.bool false, .slice p 1 c] 27)).alloc (.cells #[.bool false, .slice q 1 d] 27)).heap.size = w.heap.size + 1 + 1 from by simp] at X3
  have HB := hid (B1.trans ((B2.trans (B3.mono B2.size)).mono B1.size))
  obtain ⟨W, hW⟩ : ∃ W, ((w.alloc (.cells #[.bool false, .slice p 1 c] 27)).alloc (.cells #[.bool false, .slice q 1 d] 27)).alloc (.cells #[.bool false, .slice none 0 0, .bool false, .slice none 0 0] 29) = W := ⟨_, rfl⟩
  rw [hW] at X1 X2 X3 HB
  obtain ⟨g, hg⟩ : ∃ g, w.heap.size = g := ⟨_, rfl⟩
  rw [hg] at X1 X2 X3
  have a0 := X1.at0
  have a1 := X1.at1
  have b0 := X2.at0
  have b1 := X2.at1
  have HX1 := hid X1
  have HX2 := hid X2
  have HX3 := hid X3
  have Sp := hid (h.below HB.out)
  have Sq := hid (h'.below HB.out)
  have GC := hid (zgcd22 W p q c d Sp.out Sq.out)
  have EX := hid exact22
  have hWl := X3.lt
  have hgp : Hid (∀ b o, p = some ⟨b, o, none⟩ → b < g) := fun b o e => by
    obtain ⟨b', o', e', hc⟩ := h.lie 0 (by simp)
    rw [e] at e'
    simp only [Option.some.injEq, Addr.mk.injEq] at e'
    obtain ⟨rfl, rfl, _⟩ := e'
    rw [← hg]
    exact cell_some_block hc
  have hgq : Hid (∀ b o, q = some ⟨b, o, none⟩ → b < g) := fun b o e => by
    obtain ⟨b', o', e', hc⟩ := h'.lie 0 (by simp)
    rw [e] at e'
    simp only [Option.some.injEq, Addr.mk.injEq] at e'
    obtain ⟨rfl, rfl, _⟩ := e'
    rw [← hg]
    exact cell_some_block hc
  clear h h' B1 B2 B3 X1 X2 X3
  go_enter Tryz.func74, Tryz.ntmps74
  go_wp2_with fail
  refine GC.out.mono ?_
  rintro e w1 ⟨rg, kg, rfl, C1, Sg0, Fg0⟩
  have Fg := hid Fg0
  clear Fg0
  have C2 := below_alloc w1 (.cells #[.bool false, .slice rg 1 kg] 27)
  have Xg := box_alloc w1 false rg 1 kg
  obtain ⟨W1, hW1⟩ : ∃ W1, w1.alloc (.cells #[.bool false, .slice rg 1 kg] 27) = W1 := ⟨_, rfl⟩
  rw [hW1] at C2 Xg
  obtain ⟨gg, hgg⟩ : ∃ gg, w1.heap.size = gg := ⟨_, rfl⟩
  rw [hgg] at Xg
  have C12 := C1.trans (C2.mono C1.size)
  have hl1 : W.heap.size ≤ gg := by rw [← hgg]; exact C1.size
  have HXa := hid (HX1.out.below C12)
  have HXb := hid (HX2.out.below C12)
  have HXr := hid (HX3.out.below C12)
  have Sp1 := hid (Sp.out.below C12)
  have Sq1 := hid (Sq.out.below C12)
  have Sg := hid (Sg0.below C2)
  have HXg := hid Xg
  have HB1 := hid (HB.out.trans (C12.mono HB.out.size))
  have hg1 : gg < W1.heap.size := Xg.lt
  clear C1 C2 C12 Sg0 Xg hW HX1 HX2 HX3 Sp Sq GC a0 a1 b0 b1
  have a0 := HXa.out.at0
  have a1 := HXa.out.at1
  have b0 := HXb.out.at0
  have b1 := HXb.out.at1
  have g0 := HXg.out.at0
  have g1 := HXg.out.at1
  go_wp2_with fail
  refine (EX.out W1 p rg c kg Sp1.out Sg.out).mono ?_
  rintro e w2 ⟨r1, k1, rfl, C3, S1, F1⟩
  have xa := HXa.out.below C3
  have xb := HXb.out.below C3
  have xr := HXr.out.below C3
  have xg := HXg.out.below C3
  have HS1 := hid S1
  have HF1 := hid (fun b o (e : r1 = some ⟨b, o, none⟩) => Nat.lt_of_lt_of_le hg1 (F1 b o e))
  have Sq2 := hid (Sq1.out.below C3)
  have Sg2 := hid (Sg.out.below C3)
  have HB2 := hid (HB1.out.trans (C3.mono HB1.out.size))
  have hs2 := C3.size
  have k2 := xa.at0
  have k3 := xa.at1
  have k4 := xa.frozen 0
  have k5 := xa.frozen 1
  clear C3 S1 F1 a0 a1 b0 b1 g0 g1 hW1
  have v1 : g + 1 ≠ g := by omega
  have v2 : g + 1 + 1 ≠ g := by omega
  have v3 : gg ≠ g := by omega
  have xb' := boxFar (v0 := .bool false) (v1 := .slice r1 1 k1) xb v1
  have xg' := boxFar (v0 := .bool false) (v1 := .slice r1 1 k1) xg v3
  have xa' := xa.set false r1 1 k1
  have b0 := xb'.at0
  have b1 := xb'.at1
  have g0 := xg'.at0
  have g1 := xg'.at1
  have E2 := hid (EX.out _ q rg d kg (sl_set (g2 := g) (v0 := .bool false) (v1 := .slice r1 1 k1) Sq2.out (fun b o e => by have := hgq.out b o e; omega)) (sl_set (g2 := g) (v0 := .bool false) (v1 := .slice r1 1 k1) Sg2.out (fun b o e => by have := Fg.out b o e; omega)))
  have xr' := rboxFar (v0 := .bool false) (v1 := .slice r1 1 k1) xr v2
  have HS1' := hid (sl_set (g2 := g) (v0 := .bool false) (v1 := .slice r1 1 k1) HS1.out (fun b o e => by have := HF1.out b o e; omega))
  have vg : w.heap.size ≤ g := by omega
  have HB3 := hid ((HB2.out.setCell (p := ⟨g, 0, none⟩) vg (.bool false)).setCell (p := ⟨g, 1, none⟩) vg (.slice r1 1 k1))
  have hsz := size_set2 w2 g (.bool false) (.slice r1 1 k1)
  have HXa2 := hid xa'
  have HXb2 := hid xb'
  have HXr2 := hid xr'
  clear xa xb xr xg xg' xa' xb' xr' HXa HXb HXr HXg Sp1 Sq1 Sg Sq2 Sg2 HS1 HB1 HB2
  go_wp2_with fail
  refine E2.out.mono ?_
  rintro e w3 ⟨r2, k2', rfl, C4, S2, F2⟩
  have ya := HXa2.out.below C4
  have yb := HXb2.out.below C4
  have yr := HXr2.out.below C4
  have HS2 := hid S2
  have HS3 := hid (HS1'.out.below C4)
  have HF2 := hid (fun b o (e : r2 = some ⟨b, o, none⟩) => F2 b o e)
  have HB4 := hid (HB3.out.trans (C4.mono HB3.out.size))
  have v4 : g ≠ g + 1 := by omega
  have v5 : g + 1 + 1 ≠ g + 1 := by omega
  have j0 := yb.at0
  have j1 := yb.at1
  have j2 := yb.frozen 0
  have j3 := yb.frozen 1
  have ya' := boxFar (v0 := .bool false) (v1 := .slice r2 1 k2') ya v4
  have yb' := yb.set false r2 1 k2'
  have yr' := rboxFar (v0 := .bool false) (v1 := .slice r2 1 k2') yr v5
  have i0 := ya'.at0
  have i1 := ya'.at1
  have i2 := yb'.at0
  have i3 := yb'.at1
  have i4 := yr'.at0
  have i5 := yr'.at1
  have i6 := yr'.at2
  have i7 := yr'.at3
  have i8 := yr'.frozen 0
  have i9 := yr'.frozen 1
  have i10 := yr'.frozen 2
  have i11 := yr'.frozen 3
  clear C4 S2 F2 E2 EX
  go_wp2
  have hc := yr'.set false r1 1 k1 false r2 1 k2'
  have hc0 := hc.at0
  have hc1 := hc.at1
  have hc2 := hc.at2
  have hc3 := hc.at3
  refine bodyPost_ret (by simp [results, Tryz.results74, go_sem, hc0, hc1, hc2, hc3]; try rfl) rfl ?_
  have va : w.heap.size ≤ g + 1 := by omega
  have vb : w.heap.size ≤ g + 1 + 1 := by omega
  refine ⟨r1, k1, r2, k2', rfl, below_set4 ((HB4.out.setCell va _).setCell va _) vb, sl_set4 (sl_set HS3.out (fun b o e => by have := HF1.out b o e; omega)) (fun b o e => by have := HF1.out b o e; omega), sl_set4 (sl_set HS2.out (fun b o e => by have := HF2.out b o e; omega)) (fun b o e => by have := HF2.out b o e; omega), fun b o e => by have := HF1.out b o e; omega, fun b o e => by have := HF2.out b o e; omega⟩
end Go.Proofs.YtgalppimdmjdcaaGreat

/-
  What the law's awake calls.
-/
namespace Go.Proofs.YtgalppimdmjdcaaGreat
open Go.RowKit Nt
set_option linter.unusedSimpArgs false
set_option linter.unusedVariables false
set_option maxRecDepth 20000

theorem rof1 (w : World) : Calls Tryz.prog 51 #[.int .i64 (-1)] w fun e w' => ∃ r cr, e = .returned (.agg #[.bool true, .slice r 1 cr]) ∧ Below w.heap.size w w' ∧ Hid (Sl w' r 1 cr [1]) := by
  refine (zrof_c w (-1) (by omega) (by omega)).mono ?_
  rintro e w' ⟨r, cr, rfl, Z⟩
  have d : digs (-1 : Int).natAbs = [1] := digs_small (by decide) (by decide)
  have hs := Z.sl
  rw [d] at hs ⊢
  exact ⟨r, cr, by rw [show ng (-1) = true from by decide]; rfl, Z.below, hs⟩
theorem keepA2 {w w1 w2 : World} {a1 a2 : Addr} {v1 v2 : Value} (h : w1.cell? a1 = some v1 ∧ w1.cell? a2 = some v2 ∧ Hid (Below w.heap.size w w1)) (hb : Below w1.heap.size w1 w2) :
    w2.cell? a1 = some v1 ∧ w2.cell? a2 = some v2 ∧ Hid (Below w.heap.size w w2) := ⟨cell_below h.1 hb, cell_below h.2.1 hb, Below.trans h.2.2 (hb.mono (Below.size h.2.2))⟩

end Go.Proofs.YtgalppimdmjdcaaGreat
