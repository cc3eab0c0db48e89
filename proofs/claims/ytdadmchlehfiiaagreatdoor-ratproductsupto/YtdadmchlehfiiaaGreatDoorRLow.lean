/-
  The greatest divisor of 2 and 2; 2 by 2 in lowest terms; its text.
-/
import Derived.Test.YtdadmchlehfiiaaGreatDoorZExact
import Derived.Test.YtdadmchlehfiiaaGreatDoorRHalf
import Derived.Test.YtdadmchlehfiiaaGreatDoorRText1
namespace Go.Proofs.YtdadmchlehfiiaaGreatDoor
open Go.RowKit Nt
set_option linter.unusedSimpArgs false
set_option linter.unusedVariables false
set_option maxRecDepth 20000

theorem gcdw_c (w : World) : Calls Tryz.prog 65 #[.int .u64 2, .int .u64 0] w fun e w' => e = .returned (.int .u64 2) ∧ w' = w := by
  go_enter Tryz.func65, Tryz.ntmps65
  go_wp2
  go_loopw [0, 1] (fun a b wr => a = .int .u64 2 ∧ b = .int .u64 0 ∧ wr = w) (fun _ _ _ => 0)
  case atStart => exact ⟨rfl, rfl, rfl⟩
  case round =>
    obtain ⟨rfl, rfl, rfl⟩ := hrel
    go_wp2
    go_ret
    exact ⟨rfl, rfl⟩

set_option maxHeartbeats 2000000 in
theorem gcd22 (w : World) (p q : Option Addr) (c d : Nat) (h : Sl w p 1 c [2]) (h' : Sl w q 1 d [2]) :
    Calls Tryz.prog 43 #[.slice p 1 c, .slice q 1 d] w fun e w' => ∃ r cr, e = .returned (.slice r 1 cr) ∧ Below w.heap.size w w' ∧ Sl w' r 1 cr [2] ∧ ∀ b o, r = some ⟨b, o, none⟩ → w.heap.size ≤ b := by
  have d2 : digs 2 = [2] := digs_small (by omega) (by omega)
  have T1 := hid (trim_s w p 1 c 1 [2] (by rw [show val [2] = 2 from rfl, d2]; rfl) h)
  have T2 := hid (trim_s w q 1 d 1 [2] (by rw [show val [2] = 2 from rfl, d2]; rfl) h')
  have CM := cmp_s w p q 1 c 1 d [2] [2] h h'
  rw [show cmpN (val [2]) (val [2]) = 0 from rfl] at CM
  have HCM := hid CM
  have DV := fun nq => div_c (w.drewN nq) p q 1 c 1 d [2] [2] (h.below (below_drewN' (Below.refl _ _) nq)) (h'.below (below_drewN' (Below.refl _ _) nq)) (by decide) (by omega)
  rw [show val [2] / val [2] = 1 from rfl, show val [2] % val [2] = 0 from rfl, show (digs 0).length = 0 from rfl, show (digs 1).length = 1 from by rw [digs_small (by omega) (by omega)]; rfl] at DV
  have HDV := hid DV
  have HY := hid h'
  have GW := hid (fun W => gcdw_c W)
  clear h h' CM DV
  go_enter Tryz.func43, Tryz.ntmps43
  go_wp2_with fail
  refine T1.out.mono ?_
  rintro e w' ⟨rfl, rfl⟩
  go_wp2_with fail
  refine T2.out.mono ?_
  rintro e w'' ⟨rfl, rfl⟩
  go_wp2_with fail
  refine HCM.out.mono ?_
  rintro e w1 ⟨rfl, nq, rfl⟩
  go_wp2_with fail
  obtain ⟨wq, hwq⟩ : ∃ wq, w''.drewN nq = wq := ⟨_, rfl⟩
  have HD := hid (HDV.out nq)
  rw [hwq] at HD
  have HB0 : Hid (Below w''.heap.size w'' wq) := by rw [← hwq]; exact below_drewN' (Below.refl _ _) nq
  rw [hwq]
  clear HDV HCM T1 T2 hwq
  go_loopw [0, 1] (fun a b wr => a = .slice p 1 c ∧ b = .slice q 1 d ∧ wr = wq) (fun _ _ _ => 0)
  case atStart => exact ⟨rfl, rfl, rfl⟩
  case round =>
    obtain ⟨rfl, rfl, rfl⟩ := hrel
    go_wp2_with (go_at_call 44; refine HD.out.mono ?_; rintro e w2 ⟨rq, cq, rr, cr, rfl, R1, R2, T12⟩; have HB1 := hid R1.below; have W1 := hid (word_c w2 q 1 d [2] ((HY.out.below HB0.out).below R1.below) (by omega)); have W2 := hid (word_c w2 rr 0 cr [] (by have := R2.sl; exact this) (by omega)); have OW := hid (ofWord_i w2 2 2 rfl (by omega)); clear R1 R2 T12)
    rw [show val [2] = 2 from rfl] at W1
    rw [show val [] = 0 from rfl] at W2
    refine W1.out.mono ?_
    rintro e w3 ⟨rfl, rfl⟩
    go_wp2_with fail
    refine W2.out.mono ?_
    rintro e w4 ⟨rfl, rfl⟩
    go_wp2_with fail
    refine (GW.out _).mono ?_
    rintro e w5 ⟨rfl, rfl⟩
    go_wp2_with fail
    refine OW.out.mono ?_
    rintro e w6 ⟨r, cr', rfl, R⟩
    have HS : Hid (Sl w6 r 1 cr' [2]) := by have := R.sl; rwa [d2] at this
    have HF := hid (fun b o (e : r = some ⟨b, o, none⟩) => (R.own b o e).2.1)
    have HB2 := hid (HB1.out.trans (R.below.mono HB1.out.size))
    have HB3 := hid (HB0.out.trans (HB2.out.mono HB0.out.size))
    have hsz := HB0.out.size
    have hsz1 := HB1.out.size
    rw [d2]
    clear R
    go_wp2
    go_ret
    exact ⟨r, cr', rfl, HB3.out, HS.out, fun b o e => by have := HF.out b o e; omega⟩

set_option maxHeartbeats 2000000 in
theorem zgcd22 (w : World) (p q : Option Addr) (c d : Nat) (h : Sl w p 1 c [2]) (h' : Sl w q 1 d [2]) :
    Calls Tryz.prog 26 #[.agg #[.bool false, .slice p 1 c], .agg #[.bool false, .slice q 1 d]] w fun e w' => ∃ r cr, e = .returned (.agg #[.bool false, .slice r 1 cr]) ∧ Below w.heap.size w w' ∧ Sl w' r 1 cr [2] ∧ ∀ b o, r = some ⟨b, o, none⟩ → w.heap.size ≤ b := by
  obtain ⟨W, g, hg, hW, a0, a1, b0, b1, _, _, HI⟩ := enter2 w false p 1 c false q 1 d
  have GC := hid (gcd22 W p q c d (h.below HI.out.below) (h'.below HI.out.below))
  have hgl := HI.out.lt
  clear h h'
  go_enter Tryz.func26, Tryz.ntmps26
  go_wp2_with fail
  refine GC.out.mono ?_
  rintro e w1 ⟨r, cr, rfl, C1, S1, F1⟩
  have HI1 := hid (HI.out.call C1)
  have HS := hid S1
  have HF := hid F1
  clear C1 S1 F1 GC a0 a1 b0 b1
  go_wp2_with (go_at_call 28; refine (signed_c _ false r 1 cr (Nat.le_trans HS.out.cap HS.out.max)).mono ?_; rintro e w2 ⟨rfl, hBz⟩; have hI2 := hid (HI1.out.call hBz); have HS2 := hid (HS.out.below hBz); obtain ⟨b3, r3, n3, c3, hx3⟩ := hI2.out.box; have k0 := hx3.at0; have k1 := hx3.at1; have k2 := hx3.frozen 0; have k3 := hx3.frozen 1)
  have hc0 := fun b => (hx3.set b r 1 cr).at0
  have hc1 := fun b => (hx3.set b r 1 cr).at1
  refine bodyPost_ret (by simp [results, Tryz.results26, go_sem, hc0, hc1]; try rfl) rfl ?_
  exact ⟨r, cr, by simp, (hI2.out.set _ _ _ _).below, sl_set HS2.out (fun b o e => by have := HF.out b o e; omega), fun b o e => by have := HF.out b o e; omega⟩
end Go.Proofs.YtdadmchlehfiiaaGreatDoor
