import Derived.Test.YtaplbadcpbollaaGreatDoorSetB
import Derived.Test.YtaplbadcpbollaaGreatDoorSetK
import Derived.Test.YtaplbadcpbollaaGreatDoorSetE
import Derived.Laws.Append
import Derived.Laws.IdiomStrings
import Derived.Test.YtaplbadcpbollaaGreatDoorSetW
import Derived.Test.YtaplbadcpbollaaGreatDoorRHalf
/-
  The text of 1.
-/
namespace Go.Proofs.YtaplbadcpbollaaGreatDoor
open Go.RowKit Nt
set_option linter.unusedSimpArgs false
set_option linter.unusedVariables false
set_option maxRecDepth 20000

set_option maxRecDepth 100000 in
theorem small1 (w : World) : Calls Tryz.prog 120 #[.int .i64 1] w fun e w' => e = .returned (.string ⟨#[49]⟩) ∧ w' = w := by
  go_enter Tryz.func120, Tryz.ntmps120
  go_wp2
  go_ret
  exact ⟨rfl, rfl⟩

theorem one_cell (w : World) (a : Value) (Z : Array Value) (t : TypeId) : (w.alloc (.cells (#[a] ++ Z) t)).drew.cell? ⟨w.heap.size, 0, none⟩ = some a := by
  have hl := heap_alloc_last w (.cells (#[a] ++ Z) t)
  show (w.alloc (.cells (#[a] ++ Z) t)).cell? ⟨w.heap.size, 0, none⟩ = some a
  simp only [World.cell?]
  rw [hl]
  show (#[a] ++ Z)[0]? = _
  rw [Array.getElem?_append_left (by simp)]
  rfl

theorem iapp1 (w : World) : Calls Tryz.prog 102 #[.slice none 0 0, .int .u64 1, .int .i64 10] w fun e w' => ∃ cap, e = .returned (.slice (some ⟨w.heap.size, 0, none⟩) 1 cap) ∧ w'.cell? ⟨w.heap.size, 0, none⟩ = some (.int .u8 49) ∧ Below w.heap.size w w' := by
  have S := hid (small1 w)
  go_enter Tryz.func102, Tryz.ntmps102
  go_wp2_with fail
  refine S.out.mono ?_
  rintro e w' ⟨rfl, rfl⟩
  go_wp2
  go_ret
  exact ⟨_, rfl, one_cell _ _ _ _, ((Below.refl _ _).alloc (Nat.le_refl _) _).drew⟩
theorem app1 (w : World) : Calls Tryz.prog 72 #[.slice none 0 0, .int .u64 1, .int .i64 10] w fun e w' => ∃ cap, e = .returned (.slice (some ⟨w.heap.size, 0, none⟩) 1 cap) ∧ w'.cell? ⟨w.heap.size, 0, none⟩ = some (.int .u8 49) ∧ Below w.heap.size w w' := by
  have S := hid (iapp1 w)
  go_enter Tryz.func72, Tryz.ntmps72
  go_wp2_with fail
  refine S.out.mono ?_
  rintro e w' ⟨cap, rfl, h1, h2⟩
  go_wp2
  go_ret
  exact ⟨cap, rfl, h1, h2⟩

theorem zero_one {Z : List Nat} (h : Z.length = 1) (hv : val Z = 0) : Z = [0] := by
  match Z, h with
  | [x], _ =>
    simp [val] at hv
    rw [hv]
def lenV : Value → Nat
  | .slice _ n _ => n
  | _ => 0

set_option maxRecDepth 20000 in
set_option maxHeartbeats 4000000 in
theorem text1 (w : World) (p : Option Addr) (n c : Nat) (xs : List Nat) (h : Sl w p n c xs) (hv : val xs = 1) (hs : n ≤ 70368744177664) :
    Calls Tryz.prog 41 #[.slice p n c] w fun e w' => e = .returned (.string ⟨#[49]⟩) ∧ Below w.heap.size w w' := by
  have B1 := below_alloc w (.cells #[] 67)
  have N := norm_c (w.alloc (.cells #[] 67)) p n c xs (h.below B1) hs
  have dOne : digs 1 = [1] := digs_small (by omega) (by omega)
  rw [hv, dOne] at N
  have E0 := heap_alloc_last w (.cells #[] 67)
  have B2 := below_alloc (w.alloc (.cells #[] 67)) (.cells (U [1]).toArray 67)
  have E1 : ((w.alloc (.cells #[] 67)).alloc (.cells (U [1]).toArray 67)).heap[w.heap.size]? = some (.cells #[] 67) := (B2.block _ (by simp)).trans E0
  have E2 := heap_alloc_last (w.alloc (.cells #[] 67)) (.cells (U [1]).toArray 67)
  rw [show (w.alloc (.cells #[] 67)).heap.size = w.heap.size + 1 from by simp] at E2 N
  have HB := hid (B1.trans (B2.mono B1.size))
  obtain ⟨W, hW⟩ : ∃ W, (w.alloc (.cells #[] 67)).alloc (.cells (U [1]).toArray 67) = W := ⟨_, rfl⟩
  rw [hW] at N E1 E2 HB
  have HN := hid N
  have hWs : W.heap.size = w.heap.size + 2 := by rw [← hW]; simp
  have HE1 := hid E1
  have HE2 : Hid (Blk W (w.heap.size + 1) [1]) := E2
  obtain ⟨g, hg⟩ : ∃ g, w.heap.size = g := ⟨_, rfl⟩
  clear h N B1 B2 E0 E1 E2 hW hv dOne
  go_enter Tryz.func41, Tryz.ntmps41
  go_wp2_with fail
  refine HN.out.mono ?_
  rintro e w' ⟨rfl, rfl⟩
  go_wp2_with fail
  have DIV := divSmall_c w' (g + 1) [1] [] 1 1 1000000000 rfl (Nat.le_refl _) (by unfold maxLen; omega) (by rw [← hg]; exact HE2.out) (Ok.cons (by omega) Ok.nil) (by omega) (by omega)
  rw [show val [1] % 1000000000 = 1 from rfl, show val [1] / 1000000000 = 0 from rfl] at DIV
  have HDIV := hid DIV
  clear DIV
  have hsz : w'.heap.size = g + 2 := by rw [hWs, hg]
  go_loopw [3, 4] (fun ch rs wr => (ch = .slice (some ⟨g, 0, none⟩) 0 0 ∧ rs = .slice (some ⟨g + 1, 0, none⟩) 1 1 ∧ wr = w') ∨ (∃ gc cap, ch = .slice (some ⟨gc, 0, none⟩) 1 cap ∧ rs = .slice (some ⟨g + 1, 0, none⟩) 0 1 ∧ wr.cell? ⟨gc, 0, none⟩ = some (.int .u32 1) ∧ Hid (Below w.heap.size w wr))) (fun _ rs _ => lenV rs)
  case atStart => exact Or.inl ⟨rfl, rfl, rfl⟩
  case round =>
    rcases hrel with ⟨rfl, rfl, rfl⟩ | ⟨gc, cap, rfl, rfl, hcell, HBr⟩
    · go_wp2_with (first
        | (go_at_call 71; refine HDIV.out.mono ?_; rintro e w1 ⟨Z, hZl, hZo, hZv, rfl, hwr⟩; have hZ0 := zero_one hZl hZv; subst hZ0; have HW1 := hid (hwr.below HB.out (by omega)); have TR := hid (fun W2 (hb : Below w1.heap.size w1 W2) => trim_s W2 (some ⟨g + 1, 0, none⟩) 1 1 0 [0] rfl (Sl.below (sl_one (Wr.blk (by rw [← hg]; exact HE2.out) hwr) (by omega)) hb)); have hs1 : w1.heap.size = wr.heap.size := hwr.size; clear hwr hZv hZo hZl)
        | (go_at_call 67; refine (TR.out _ (((Below.refl _ _).alloc (Nat.le_refl _) _).alloc (by simp) _).drew).mono ?_; rintro e w2 ⟨rfl, rfl⟩)
        | fail)
      go_roundw
      case rel =>
        refine Or.inr ⟨_, _, rfl, rfl, ?_, ?_⟩
        · rw [show g + 2 + 1 = (w1.alloc (.cells #[.int .u32 1] 67)).heap.size from by simp; omega]
          exact one_cell _ _ _ _
        · exact ((HW1.out.alloc HW1.out.size _).alloc (by have := HW1.out.size; simp; omega) _).drew
      case measure => simp [lenV]
    · have AP := hid (app1 wr)
      go_wp2_with (go_at_call 72; refine AP.out.mono ?_; rintro e w3 ⟨cap3, rfl, hd0, hB3⟩)
      have HB4 := hid (HBr.out.trans (hB3.mono HBr.out.size))
      clear AP hB3
      obtain ⟨wo, rfl⟩ : ∃ wo : World, wo = wr := ⟨_, rfl⟩
      go_loopw [6, 34] (fun out i wz => out = .slice (some ⟨wo.heap.size, 0, none⟩) 1 cap3 ∧ i = .int .i64 0 ∧ wz = w3) (fun _ _ _ => 0)
      case atStart => exact ⟨rfl, rfl, rfl⟩
      case round =>
        obtain ⟨rfl, rfl, rfl⟩ := hrel
        have CV : (convert 87 9 (.slice (some ⟨wo.heap.size, 0, none⟩) 1 cap3)).run Tryz.prog wr = .ok (.string ⟨#[49]⟩) wr := run_convert_bytes_back (P := Tryz.prog) wr 87 9 5 ⟨wo.heap.size, 0, none⟩ cap3 [49] Tryz.underlying87 Tryz.underlying5 Tryz.underlying9 (fun j hj => by
          match j, hj with
          | 0, _ => exact hd0)
        go_wp2
        go_ret
        first | exact ⟨rfl, HB4.out⟩ | exact ⟨rfl, by rw [← hg]; exact HB4.out⟩

set_option maxHeartbeats 1000000 in
theorem ztext1 (w : World) (p : Option Addr) (n c : Nat) (xs : List Nat) (h : Sl w p n c xs) (hv : val xs = 1) (hs : n ≤ 70368744177664) :
    Calls Tryz.prog 17 #[.agg #[.bool false, .slice p n c]] w fun e w' => e = .returned (.string ⟨#[49]⟩) ∧ Below w.heap.size w w' := by
  obtain ⟨W, g, hg, hW, c10, c11, HB⟩ := enter1b w false p n c
  have SG := zsign_c W false p n c xs (h.below HB.out) hs
  rw [sign_pos (by rw [hv]; omega)] at SG
  have HS := hid SG
  have HH := hid h
  clear SG h
  go_enter Tryz.func17, Tryz.ntmps17
  go_wp2_with fail
  refine HS.out.mono ?_
  rintro e w1 ⟨rfl, hB1⟩
  replace c11 := cell_below c11 hB1
  have HF := hid (HB.out.trans (hB1.mono HB.out.size))
  have T := hid (text1 w1 p n c xs (HH.out.below HF.out) hv hs)
  clear hB1 hv
  go_wp2_with fail
  refine T.out.mono ?_
  rintro e w2 ⟨rfl, hB2⟩
  have HG := hid (HF.out.trans (hB2.mono HF.out.size))
  clear hB2
  go_wp2
  go_ret
  exact ⟨rfl, HG.out⟩
end Go.Proofs.YtaplbadcpbollaaGreatDoor

/-
  The greatest divisor of 2 and 2; 2 by 2 in lowest terms; its text.
-/
namespace Go.Proofs.YtaplbadcpbollaaGreatDoor
open Go.RowKit Nt
set_option linter.unusedSimpArgs false
set_option linter.unusedVariables false
set_option maxRecDepth 20000

theorem gcdw_c (w : World) : Calls Tryz.prog 99 #[.int .u64 2, .int .u64 0] w fun e w' => e = .returned (.int .u64 2) ∧ w' = w := by
  go_enter Tryz.func99, Tryz.ntmps99
  go_wp2
  go_loopw [0, 1] (fun a b wr => a = .int .u64 2 ∧ b = .int .u64 0 ∧ wr = w) (fun _ _ _ => 0)
  case atStart => exact ⟨rfl, rfl, rfl⟩
  case round =>
    obtain ⟨rfl, rfl, rfl⟩ := hrel
    go_wp2
    go_ret
    exact ⟨rfl, rfl⟩

set_option maxHeartbeats 2000000 in
theorem gcd22 (w : World) (p q : Option Addr) (c d : Nat) (h : Sl w p 1 c [2]) (h' : Sl w q 1 d [2]) :
    Calls Tryz.prog 64 #[.slice p 1 c, .slice q 1 d] w fun e w' => ∃ r cr, e = .returned (.slice r 1 cr) ∧ Below w.heap.size w w' ∧ Sl w' r 1 cr [2] ∧ ∀ b o, r = some ⟨b, o, none⟩ → w.heap.size ≤ b := by
  have d2 : digs 2 = [2] := digs_small (by omega) (by omega)
  have T1 := hid (trim_s w p 1 c 1 [2] (by rw [show val [2] = 2 from rfl, d2]; rfl) h)
  have T2 := hid (trim_s w q 1 d 1 [2] (by rw [show val [2] = 2 from rfl, d2]; rfl) h')
  have CM := cmp_s w p q 1 c 1 d [2] [2] h h'
  rw [show cmpN (val [2]) (val [2]) = 0 from rfl] at CM
  have HCM := hid CM
  have DV := fun nq => div_c (w.drewN nq) p q 1 c 1 d [2] [2] (h.below (below_drewN' (Below.refl _ _) nq)) (h'.below (below_drewN' (Below.refl _ _) nq)) (by decide) (by omega)
  rw [show val [2] / val [2] = 1 from rfl, show val [2] % val [2] = 0 from rfl, show (digs 0).length = 0 from rfl, show (digs 1).length = 1 from by rw [digs_small (by omega) (by omega)]; rfl] at DV
  have HDV := hid DV
  have HY := hid h'
  have GW := hid (fun W => gcdw_c W)
  clear h h' CM DV
  go_enter Tryz.func64, Tryz.ntmps64
  go_wp2_with fail
  refine T1.out.mono ?_
  rintro e w' ⟨rfl, rfl⟩
  go_wp2_with fail
  refine T2.out.mono ?_
  rintro e w'' ⟨rfl, rfl⟩
  go_wp2_with fail
  refine HCM.out.mono ?_
  rintro e w1 ⟨rfl, nq, rfl⟩
  go_wp2_with fail
  obtain ⟨wq, hwq⟩ : ∃ wq, w''.drewN nq = wq := ⟨_, rfl⟩
  have HD := hid (HDV.out nq)
  rw [hwq] at HD
  have HB0 : Hid (Below w''.heap.size w'' wq) := by rw [← hwq]; exact below_drewN' (Below.refl _ _) nq
  rw [hwq]
  clear HDV HCM T1 T2 hwq
  go_loopw [0, 1] (fun a b wr => a = .slice p 1 c ∧ b = .slice q 1 d ∧ wr = wq) (fun _ _ _ => 0)
  case atStart => exact ⟨rfl, rfl, rfl⟩
  case round =>
    obtain ⟨rfl, rfl, rfl⟩ := hrel
    go_wp2_with (go_at_call 65; refine HD.out.mono ?_; rintro e w2 ⟨rq, cq, rr, cr, rfl, R1, R2, T12⟩; have HB1 := hid R1.below; have W1 := hid (word_c w2 q 1 d [2] ((HY.out.below HB0.out).below R1.below) (by omega)); have W2 := hid (word_c w2 rr 0 cr [] (by have := R2.sl; exact this) (by omega)); have OW := hid (ofWord_i w2 2 2 rfl (by omega)); clear R1 R2 T12)
    rw [show val [2] = 2 from rfl] at W1
    rw [show val [] = 0 from rfl] at W2
    refine W1.out.mono ?_
    rintro e w3 ⟨rfl, rfl⟩
    go_wp2_with fail
    refine W2.out.mono ?_
    rintro e w4 ⟨rfl, rfl⟩
    go_wp2_with fail
    refine (GW.out _).mono ?_
    rintro e w5 ⟨rfl, rfl⟩
    go_wp2_with fail
    refine OW.out.mono ?_
    rintro e w6 ⟨r, cr', rfl, R⟩
    have HS : Hid (Sl w6 r 1 cr' [2]) := by have := R.sl; rwa [d2] at this
    have HF := hid (fun b o (e : r = some ⟨b, o, none⟩) => (R.own b o e).2.1)
    have HB2 := hid (HB1.out.trans (R.below.mono HB1.out.size))
    have HB3 := hid (HB0.out.trans (HB2.out.mono HB0.out.size))
    have hsz := HB0.out.size
    have hsz1 := HB1.out.size
    rw [d2]
    clear R
    go_wp2
    go_ret
    exact ⟨r, cr', rfl, HB3.out, HS.out, fun b o e => by have := HF.out b o e; omega⟩

set_option maxHeartbeats 2000000 in
theorem zgcd22 (w : World) (p q : Option Addr) (c d : Nat) (h : Sl w p 1 c [2]) (h' : Sl w q 1 d [2]) :
    Calls Tryz.prog 36 #[.agg #[.bool false, .slice p 1 c], .agg #[.bool false, .slice q 1 d]] w fun e w' => ∃ r cr, e = .returned (.agg #[.bool false, .slice r 1 cr]) ∧ Below w.heap.size w w' ∧ Sl w' r 1 cr [2] ∧ ∀ b o, r = some ⟨b, o, none⟩ → w.heap.size ≤ b := by
  obtain ⟨W, g, hg, hW, a0, a1, b0, b1, _, _, HI⟩ := enter2 w false p 1 c false q 1 d
  have GC := hid (gcd22 W p q c d (h.below HI.out.below) (h'.below HI.out.below))
  have hgl := HI.out.lt
  clear h h'
  go_enter Tryz.func36, Tryz.ntmps36
  go_wp2_with fail
  refine GC.out.mono ?_
  rintro e w1 ⟨r, cr, rfl, C1, S1, F1⟩
  have HI1 := hid (HI.out.call C1)
  have HS := hid S1
  have HF := hid F1
  clear C1 S1 F1 GC a0 a1 b0 b1
  go_wp2_with (go_at_call 63; refine (signed_c _ false r 1 cr (Nat.le_trans HS.out.cap HS.out.max)).mono ?_; rintro e w2 ⟨rfl, hBz⟩; have hI2 := hid (HI1.out.call hBz); have HS2 := hid (HS.out.below hBz); obtain ⟨b3, r3, n3, c3, hx3⟩ := hI2.out.box; have k0 := hx3.at0; have k1 := hx3.at1; have k2 := hx3.frozen 0; have k3 := hx3.frozen 1)
  have hc0 := fun b => (hx3.set b r 1 cr).at0
  have hc1 := fun b => (hx3.set b r 1 cr).at1
  refine bodyPost_ret (by simp [results, Tryz.results36, go_sem, hc0, hc1]; try rfl) rfl ?_
  exact ⟨r, cr, by simp, (hI2.out.set _ _ _ _).below, sl_set HS2.out (fun b o e => by have := HF.out b o e; omega), fun b o e => by have := HF.out b o e; omega⟩
end Go.Proofs.YtaplbadcpbollaaGreatDoor

/-
  zint.Near, where the rest is a half or more.
-/
namespace Go.Proofs.YtaplbadcpbollaaGreatDoor
open Go.RowKit Nt
set_option linter.unusedSimpArgs false
set_option linter.unusedVariables false
set_option maxRecDepth 20000

theorem zof1 (w : World) : Calls Tryz.prog 16 #[.int .i64 1] w fun e w' => ∃ r cr, e = .returned (.agg #[.bool false, .slice r 1 cr]) ∧ Below w.heap.size w w' ∧ Hid (Sl w' r 1 cr [1]) := by
  refine (zof_c w 1 (by omega) (by omega)).mono ?_
  rintro e w' ⟨r, cr, rfl, Z⟩
  have d : digs (1 : Int).natAbs = [1] := digs_small (by decide) (by decide)
  have hs := Z.sl
  rw [d] at hs ⊢
  exact ⟨r, cr, rfl, Z.below, hs⟩
theorem zadd_f (w : World) (s t : Bool) (p q : Option Addr) (n c m d : Nat) (xs ys : List Nat) (A B : Int) (eA : sg s (val xs) = A) (eB : sg t (val ys) = B) (h : Sl w p n c xs) (h' : Sl w q m d ys) (hs : n ≤ 70368744177663) (hs' : m ≤ 70368744177663) :
    Calls Tryz.prog 95 #[.agg #[.bool s, .slice p n c], .agg #[.bool t, .slice q m d]] w fun e w' => ∃ b L D r cr, e = .returned (.agg #[.bool b, .slice r L cr]) ∧ Below w.heap.size w w' ∧ Hid (Sl w' r L cr D) ∧ Hid (Nm b L D (A + B)) ∧ L ≤ n + m + 1 ∧ Hid (∀ b o, r = some ⟨b, o, none⟩ → w.heap.size ≤ b) := by
  refine (zadd_c w s t p q n c m d xs ys h h' hs hs').mono ?_
  rintro e w' ⟨r, cr, rfl, Z⟩
  subst eA eB
  refine ⟨_, _, _, r, cr, rfl, Z.below, Z.sl, Nm.mk' _, ?_, Z.fresh⟩
  refine Nat.le_trans (digs_length_mono (m := val xs + val ys) (by have := sg_abs s (val xs); have := sg_abs t (val ys); omega)) ?_
  exact digs_add_len (Nat.le_trans h.dl (Nat.le_add_right _ _)) (Nat.le_trans h'.dl (Nat.le_add_left _ _))

theorem invS4 {A B C D : Prop} {w w' : World} {g2 : Nat} (h : A ∧ B ∧ C ∧ D ∧ Hid (Inv w w' g2)) : Inv w w' g2 := h.2.2.2.2

set_option maxHeartbeats 4000000 in
theorem znear_up (w : World) (s t : Bool) (p q : Option Addr) (n c m d : Nat) (xs ys : List Nat) (h : Sl w p n c xs) (h' : Sl w q m d ys) (hy : val ys ≠ 0) (hs : n + 1 ≤ 35184372088831) (hs' : m ≤ 35184372088831) (hge : val ys ≤ 2 * (rm (sg s (val xs)) (sg t (val ys))).natAbs) :
    Calls Tryz.prog 60 #[.agg #[.bool s, .slice p n c], .agg #[.bool t, .slice q m d]] w (Fl1 w (fl (sg s (val xs)) (sg t (val ys)) + 1) (n + 3)) := by
  obtain ⟨W, g, hg, hW, a0, a1, e0, e1, _, _, HI⟩ := enter2 w s p n c t q m d
  have FL := hid (zfloor_c W s t p q n c m d xs ys (h.below HI.out.below) (h'.below HI.out.below) hy (by omega) (by omega))
  have HY := hid h'
  obtain ⟨F, hF⟩ : ∃ F, fl (sg s (val xs)) (sg t (val ys)) = F := ⟨_, rfl⟩
  obtain ⟨R, hR⟩ : ∃ R, (rm (sg s (val xs)) (sg t (val ys))) = R := ⟨_, rfl⟩
  unfold Fl2 at FL
  rw [hF, hR] at FL
  rw [hF]
  rw [hR] at hge
  obtain ⟨y, hyy⟩ : ∃ y, val ys = y := ⟨_, rfl⟩
  rw [hyy] at hge
  have HVY := hid hyy
  have hgl := HI.out.lt
  clear h h' hy hF hR hyy
  go_enter Tryz.func60, Tryz.ntmps60
  go_wp2_with fail
  refine FL.out.mono ?_
  rintro e w1 ⟨bq, Lq, Dq, rq, cq, br, Lr, Dr, rr, cr, rfl, C1, Sq, Sr, Nq, Nr, lq, lr, fq, fr⟩
  replace e1 := cell_below e1 C1
  replace HI := hid (HI.out.call C1)
  have C2 := below_alloc w1 (.cells #[.bool bq, .slice rq Lq cq] 24)
  have C3 := below_alloc (w1.alloc (.cells #[.bool bq, .slice rq Lq cq] 24)) (.cells #[.bool br, .slice rr Lr cr] 24)
  have Xq := (box_alloc w1 bq rq Lq cq).below C3
  have Xr := box_alloc (w1.alloc (.cells #[.bool bq, .slice rq Lq cq] 24)) br rr Lr cr
  rw [show (w1.alloc (.cells #[.bool bq, .slice rq Lq cq] 24)).heap.size = w1.heap.size + 1 from by simp] at Xr
  have C23 := C2.trans (C3.mono C2.size)
  obtain ⟨W1, hW1⟩ : ∃ W1, (w1.alloc (.cells #[.bool bq, .slice rq Lq cq] 24)).alloc (.cells #[.bool br, .slice rr Lr cr] 24) = W1 := ⟨_, rfl⟩
  rw [hW1] at Xq Xr C23
  have hlt1 := HI.out.lt
  obtain ⟨gq, hgq⟩ : ∃ gq, w1.heap.size = gq := ⟨_, rfl⟩
  rw [hgq] at Xq Xr
  replace e1 := cell_below e1 C23
  replace HI := hid (HI.out.call C23)
  replace Sq := hid (Sq.out.below C23)
  replace Sr := hid (Sr.out.below C23)
  have x0 := Xq.at0
  have x1 := Xq.at1
  have z1 := Xr.at1
  have HXq := hid Xq
  have vr : Hid (val Dr = R.natAbs) := by rw [Nr.out.dgs, val_digs]; rfl
  clear C1 C2 C3 C23 Xq Xr hW a0 a1 e0 FL
  go_wp2
  go_region_held3 (fun w' => w'.cell? ⟨gq, 0, none⟩ = some (.bool bq) ∧ w'.cell? ⟨gq, 1, none⟩ = some (.slice rq Lq cq) ∧ w'.cell? ⟨g + 1, 1, none⟩ = some (.slice q m d) ∧ w'.cell? ⟨gq + 1, 1, none⟩ = some (.slice rr Lr cr) ∧ Hid (Inv w w' (g + 1 + 1)))
    (first | (with_reducible exact keepS (by assumption) hBz) | (exact ⟨x0, x1, e1, z1, HI.out.drew⟩) | fail)
    (first | (go_at_call 54; refine (add_c _ rr rr Lr cr Lr cr Dr Dr (Sr.out.below (Below.refl _ _).drew) (Sr.out.below (Below.refl _ _).drew) (by omega) (by omega)).mono ?_; rintro e wa ⟨r2, k2, rfl, R2⟩; have hBz := R2.below; have H2 := hid R2.sl; have HBa := hid hBz)
           | (go_at_call 39; refine (cmp_s _ r2 q _ k2 m d (digs (val Dr + val Dr)) ys H2.out (HY.out.below (invS4 (w := w) (g2 := g + 1 + 1) (by assumption)).below)).mono ?_; rintro e wb ⟨rfl, nq, rfl⟩; have hBz := below_drewN' (Below.refl wa.heap.size wa) nq; have HS := hid (keepS (w := w) (g2 := g + 1 + 1) (by assumption) hBz); have HBb := hid hBz))
  have hcm : 0 ≤ cmpN (val (digs (val Dr + val Dr))) (val ys) := by
    rw [val_digs, vr.out, HVY.out]
    unfold cmpN
    split
    · omega
    · split <;> omega
  obtain ⟨y0, y1, _, _, HI2⟩ := HS.out
  have Sq2 := hid (((Sq.out.below (Below.refl _ _).drew).below HBa.out).below HBb.out)
  have HXq2 := hid (((HXq.out.below (Below.refl _ _).drew).below HBa.out).below HBb.out)
  have hw1 : W1.heap.size ≤ (wa.drewN nq).heap.size := HBa.out.size
  have hsW : W1.heap.size = gq + 2 := by rw [← hW1]; simp; omega
  generalize hwz : wa.drewN nq = wz at *
  clear HS HBa HBb HXq Sq Sr x0 x1 e1 z1 HI H2 hW1
  go_wp2
  clear hcm
  go_region_with (first | (go_at_call 16; refine (zof1 _).mono ?_; rintro e wo ⟨ro, ko, rfl, hBo, So⟩; have p0 := cell_below (w := wz.drew) y0 hBo; have p1 := cell_below (w := wz.drew) y1 hBo; have Sq3 := hid ((Sq2.out.below (Below.refl _ _).drew).below hBo); have HIo := hid (HI2.out.drew.call hBo); have HXo := hid ((HXq2.out.below (Below.refl _ _).drew).below hBo); have hso := hBo.size; (try simp at hso))
                        | (go_at_call 95; refine (zadd_f _ bq false rq ro Lq cq 1 ko Dq [1] F 1 Nq.out.sg rfl Sq3.out So.out (by omega) (by omega)).mono ?_; rintro e wp ⟨b5, L5, D5, r5, k5, rfl, hB5, S5, N5, l5, f5⟩; have HIp := hid (HIo.out.call hB5); have hx5 := HXo.out.below hB5; have j0 := hx5.at0; have j1 := hx5.at1; have j2 := hx5.frozen 0; have j3 := hx5.frozen 1; obtain ⟨b6, r6, n6, c6, hx6⟩ := HIp.out.box; have i0 := hx6.at0; have i1 := hx6.at1; have i2 := hx6.frozen 0; have i3 := hx6.frozen 1))
  all_goals
    have v1 : gq ≠ g + 1 + 1 := by omega
    have v2 : g + 1 + 1 ≠ gq := by omega
    have hq6 := boxFar (v0 := .bool b5) (v1 := .slice r5 L5 k5) hx6 v2
    have hq5 := hx5.set b5 r5 L5 k5
    have j4 := hq5.at0
    have j5 := hq5.at1
    have i4 := hq6.at0
    have i5 := hq6.at1
    have i6 := hq6.frozen 0
    have i7 := hq6.frozen 1
    go_wp2
    have hc := hq6.set b5 r5 L5 k5
    have hc0 := hc.at0
    have hc1 := hc.at1
    refine bodyPost_ret (by simp [results, Tryz.results60, go_sem, hc0, hc1]; try rfl) rfl ?_
    refine ⟨b5, L5, D5, r5, k5, rfl, ?_, sl_set (sl_set S5.out (fun b o e => by have := f5.out b o e; omega)) (fun b o e => by have := f5.out b o e; omega), N5, by omega, fun b o e => by have := f5.out b o e; omega⟩
    have va : w.heap.size ≤ gq := by omega
    have vb : w.heap.size ≤ g + 1 + 1 := by omega
    exact (((HIp.out.below.setCell va _).setCell va _).setCell vb _).setCell vb _
end Go.Proofs.YtaplbadcpbollaaGreatDoor

/-
  2 by 2 in lowest terms is 1 by 1; its text.
-/
namespace Go.Proofs.YtaplbadcpbollaaGreatDoor
open Go.RowKit Nt
set_option linter.unusedSimpArgs false
set_option linter.unusedVariables false
set_option maxRecDepth 20000

theorem rboxFar {w : World} {b b' n c m d : Nat} {s t : Bool} {p q : Option Addr} {v0 v1 : Value} (h : RBox w b s p n c t q m d) (hb : b ≠ b') : RBox ((w.setCell ⟨b', 0, none⟩ v0).setCell ⟨b', 1, none⟩ v1) b s p n c t q m d := by
  show _ = _
  rw [Below.heap_setCell _ _ _ _ (by simpa using hb), Below.heap_setCell _ _ _ _ (by simpa using hb)]
  exact h
theorem size_set2 (w : World) (b : Nat) (v0 v1 : Value) : ((w.setCell ⟨b, 0, none⟩ v0).setCell ⟨b, 1, none⟩ v1).heap.size = w.heap.size := by simp

theorem exact22 (w : World) (p q : Option Addr) (c d : Nat) (h : Sl w p 1 c [2]) (h' : Sl w q 1 d [2]) :
    Calls Tryz.prog 37 #[.agg #[.bool false, .slice p 1 c], .agg #[.bool false, .slice q 1 d]] w fun e w' => ∃ r cr, e = .returned (.tuple #[.agg #[.bool false, .slice r 1 cr], .int .i64 0]) ∧ Below w.heap.size w w' ∧ Sl w' r 1 cr [1] ∧ ∀ b o, r = some ⟨b, o, none⟩ → w.heap.size ≤ b := by
  refine (zexact_c w false false p q 1 c 1 d [2] [2] h h' (by decide) (by decide) (by omega)).mono ?_
  rintro e w' ⟨b, L, D, r, cr, rfl, hB, hS, hN, hl, hf⟩
  have e1 : sg (false != false) (val [2] / val [2]) = 1 := by decide
  have hn := hN.out
  rw [e1] at hn
  have hD : D = [1] := by rw [hn.dgs]; exact digs_small (by decide) (by decide)
  have hL : L = 1 := by rw [← hn.len, hD]; rfl
  have hb : b = false := by rw [hn.sgn]; decide
  subst hD hL hb
  exact ⟨r, cr, rfl, hB, hS.out, hf⟩

set_option maxHeartbeats 4000000 in
theorem lowest22 (w : World) (p q : Option Addr) (c d : Nat) (h : Sl w p 1 c [2]) (h' : Sl w q 1 d [2]) :
    Calls Tryz.prog 14 #[.agg #[.bool false, .slice p 1 c], .agg #[.bool false, .slice q 1 d]] w fun e w' => ∃ r1 k1 r2 k2, e = .returned (.agg #[.bool false, .slice r1 1 k1, .bool false, .slice r2 1 k2]) ∧ Below w.heap.size w w' ∧ Sl w' r1 1 k1 [1] ∧ Sl w' r2 1 k2 [1] ∧ (∀ b o, r1 = some ⟨b, o, none⟩ → w.heap.size ≤ b) ∧ ∀ b o, r2 = some ⟨b, o, none⟩ → w.heap.size ≤ b := by
  have B1 := below_alloc w (.cells #[.bool false, .slice p 1 c] 24)
  have B2 := below_alloc (w.alloc (.cells #[.bool false, .slice p 1 c] 24)) (.cells #[.bool false, .slice q 1 d] 24)
  have B3 := below_alloc ((w.alloc (.cells #[.bool false, .slice p 1 c] 24)).alloc (.cells #[.bool false, .slice q 1 d] 24)) (.cells #[.bool false, .slice none 0 0, .bool false, .slice none 0 0] 26)
  have X1 := ((box_alloc w false p 1 c).below B2).below B3
  have X2 := (box_alloc (w.alloc (.cells #[.bool false, .slice p 1 c] 24)) false q 1 d).below B3
  have X3 := rbox_alloc ((w.alloc (.cells #[.bool false, .slice p 1 c] 24)).alloc (.cells #[.bool false, .slice q 1 d] 24)) false none 0 0 false none 0 0
  rw [show (w.alloc (.cells #[.bool false, .slice p 1 c] 24)).heap.size = w.heap.size + 1 from by simp] at X2
  rw [show ((w.alloc (.cells #[.bool false, .slice p 1 c] 24)).alloc (.cells #[.bool false, .slice q 1 d] 24)).heap.size = w.heap.size + 1 + 1 from by simp] at X3
  have HB := hid (B1.trans ((B2.trans (B3.mono B2.size)).mono B1.size))
  obtain ⟨W, hW⟩ : ∃ W, ((w.alloc (.cells #[.bool false, .slice p 1 c] 24)).alloc (.cells #[.bool false, .slice q 1 d] 24)).alloc (.cells #[.bool false, .slice none 0 0, .bool false, .slice none 0 0] 26) = W := ⟨_, rfl⟩
  rw [hW] at X1 X2 X3 HB
  obtain ⟨g, hg⟩ : ∃ g, w.heap.size = g := ⟨_, rfl⟩
  rw [hg] at X1 X2 X3
  have a0 := X1.at0
  have a1 := X1.at1
  have b0 := X2.at0
  have b1 := X2.at1
  have HX1 := hid X1
  have HX2 := hid X2
  have HX3 := hid X3
  have Sp := hid (h.below HB.out)
  have Sq := hid (h'.below HB.out)
  have GC := hid (zgcd22 W p q c d Sp.out Sq.out)
  have EX := hid exact22
  have hWl := X3.lt
  have hgp : Hid (∀ b o, p = some ⟨b, o, none⟩ → b < g) := fun b o e => by
    obtain ⟨b', o', e', hc⟩ := h.lie 0 (by simp)
    rw [e] at e'
    simp only [Option.some.injEq, Addr.mk.injEq] at e'
    obtain ⟨rfl, rfl, _⟩ := e'
    rw [← hg]
    exact cell_some_block hc
  have hgq : Hid (∀ b o, q = some ⟨b, o, none⟩ → b < g) := fun b o e => by
    obtain ⟨b', o', e', hc⟩ := h'.lie 0 (by simp)
    rw [e] at e'
    simp only [Option.some.injEq, Addr.mk.injEq] at e'
    obtain ⟨rfl, rfl, _⟩ := e'
    rw [← hg]
    exact cell_some_block hc
  clear h h' B1 B2 B3 X1 X2 X3
  go_enter Tryz.func14, Tryz.ntmps14
  go_wp2_with fail
  refine GC.out.mono ?_
  rintro e w1 ⟨rg, kg, rfl, C1, Sg0, Fg0⟩
  have Fg := hid Fg0
  clear Fg0
  have C2 := below_alloc w1 (.cells #[.bool false, .slice rg 1 kg] 24)
  have Xg := box_alloc w1 false rg 1 kg
  obtain ⟨W1, hW1⟩ : ∃ W1, w1.alloc (.cells #[.bool false, .slice rg 1 kg] 24) = W1 := ⟨_, rfl⟩
  rw [hW1] at C2 Xg
  obtain ⟨gg, hgg⟩ : ∃ gg, w1.heap.size = gg := ⟨_, rfl⟩
  rw [hgg] at Xg
  have C12 := C1.trans (C2.mono C1.size)
  have hl1 : W.heap.size ≤ gg := by rw [← hgg]; exact C1.size
  have HXa := hid (HX1.out.below C12)
  have HXb := hid (HX2.out.below C12)
  have HXr := hid (HX3.out.below C12)
  have Sp1 := hid (Sp.out.below C12)
  have Sq1 := hid (Sq.out.below C12)
  have Sg := hid (Sg0.below C2)
  have HXg := hid Xg
  have HB1 := hid (HB.out.trans (C12.mono HB.out.size))
  have hg1 : gg < W1.heap.size := Xg.lt
  clear C1 C2 C12 Sg0 Xg hW HX1 HX2 HX3 Sp Sq GC a0 a1 b0 b1
  have a0 := HXa.out.at0
  have a1 := HXa.out.at1
  have b0 := HXb.out.at0
  have b1 := HXb.out.at1
  have g0 := HXg.out.at0
  have g1 := HXg.out.at1
  go_wp2_with fail
  refine (EX.out W1 p rg c kg Sp1.out Sg.out).mono ?_
  rintro e w2 ⟨r1, k1, rfl, C3, S1, F1⟩
  have xa := HXa.out.below C3
  have xb := HXb.out.below C3
  have xr := HXr.out.below C3
  have xg := HXg.out.below C3
  have HS1 := hid S1
  have HF1 := hid (fun b o (e : r1 = some ⟨b, o, none⟩) => Nat.lt_of_lt_of_le hg1 (F1 b o e))
  have Sq2 := hid (Sq1.out.below C3)
  have Sg2 := hid (Sg.out.below C3)
  have HB2 := hid (HB1.out.trans (C3.mono HB1.out.size))
  have hs2 := C3.size
  have k2 := xa.at0
  have k3 := xa.at1
  have k4 := xa.frozen 0
  have k5 := xa.frozen 1
  clear C3 S1 F1 a0 a1 b0 b1 g0 g1 hW1
  have v1 : g + 1 ≠ g := by omega
  have v2 : g + 1 + 1 ≠ g := by omega
  have v3 : gg ≠ g := by omega
  have xb' := boxFar (v0 := .bool false) (v1 := .slice r1 1 k1) xb v1
  have xg' := boxFar (v0 := .bool false) (v1 := .slice r1 1 k1) xg v3
  have xa' := xa.set false r1 1 k1
  have b0 := xb'.at0
  have b1 := xb'.at1
  have g0 := xg'.at0
  have g1 := xg'.at1
  have E2 := hid (EX.out _ q rg d kg (sl_set (g2 := g) (v0 := .bool false) (v1 := .slice r1 1 k1) Sq2.out (fun b o e => by have := hgq.out b o e; omega)) (sl_set (g2 := g) (v0 := .bool false) (v1 := .slice r1 1 k1) Sg2.out (fun b o e => by have := Fg.out b o e; omega)))
  have xr' := rboxFar (v0 := .bool false) (v1 := .slice r1 1 k1) xr v2
  have HS1' := hid (sl_set (g2 := g) (v0 := .bool false) (v1 := .slice r1 1 k1) HS1.out (fun b o e => by have := HF1.out b o e; omega))
  have vg : w.heap.size ≤ g := by omega
  have HB3 := hid ((HB2.out.setCell (p := ⟨g, 0, none⟩) vg (.bool false)).setCell (p := ⟨g, 1, none⟩) vg (.slice r1 1 k1))
  have hsz := size_set2 w2 g (.bool false) (.slice r1 1 k1)
  have HXa2 := hid xa'
  have HXb2 := hid xb'
  have HXr2 := hid xr'
  clear xa xb xr xg xg' xa' xb' xr' HXa HXb HXr HXg Sp1 Sq1 Sg Sq2 Sg2 HS1 HB1 HB2
  go_wp2_with fail
  refine E2.out.mono ?_
  rintro e w3 ⟨r2, k2', rfl, C4, S2, F2⟩
  have ya := HXa2.out.below C4
  have yb := HXb2.out.below C4
  have yr := HXr2.out.below C4
  have HS2 := hid S2
  have HS3 := hid (HS1'.out.below C4)
  have HF2 := hid (fun b o (e : r2 = some ⟨b, o, none⟩) => F2 b o e)
  have HB4 := hid (HB3.out.trans (C4.mono HB3.out.size))
  have v4 : g ≠ g + 1 := by omega
  have v5 : g + 1 + 1 ≠ g + 1 := by omega
  have j0 := yb.at0
  have j1 := yb.at1
  have j2 := yb.frozen 0
  have j3 := yb.frozen 1
  have ya' := boxFar (v0 := .bool false) (v1 := .slice r2 1 k2') ya v4
  have yb' := yb.set false r2 1 k2'
  have yr' := rboxFar (v0 := .bool false) (v1 := .slice r2 1 k2') yr v5
  have i0 := ya'.at0
  have i1 := ya'.at1
  have i2 := yb'.at0
  have i3 := yb'.at1
  have i4 := yr'.at0
  have i5 := yr'.at1
  have i6 := yr'.at2
  have i7 := yr'.at3
  have i8 := yr'.frozen 0
  have i9 := yr'.frozen 1
  have i10 := yr'.frozen 2
  have i11 := yr'.frozen 3
  clear C4 S2 F2 E2 EX
  go_wp2
  have hc := yr'.set false r1 1 k1 false r2 1 k2'
  have hc0 := hc.at0
  have hc1 := hc.at1
  have hc2 := hc.at2
  have hc3 := hc.at3
  refine bodyPost_ret (by simp [results, Tryz.results14, go_sem, hc0, hc1, hc2, hc3]; try rfl) rfl ?_
  have va : w.heap.size ≤ g + 1 := by omega
  have vb : w.heap.size ≤ g + 1 + 1 := by omega
  refine ⟨r1, k1, r2, k2', rfl, below_set4 ((HB4.out.setCell va _).setCell va _) vb, sl_set4 (sl_set HS3.out (fun b o e => by have := HF1.out b o e; omega)) (fun b o e => by have := HF1.out b o e; omega), sl_set4 (sl_set HS2.out (fun b o e => by have := HF2.out b o e; omega)) (fun b o e => by have := HF2.out b o e; omega), fun b o e => by have := HF1.out b o e; omega, fun b o e => by have := HF2.out b o e; omega⟩
end Go.Proofs.YtaplbadcpbollaaGreatDoor

/-
  What the law's awake calls.
-/
namespace Go.Proofs.YtaplbadcpbollaaGreatDoor
open Go.RowKit Nt
set_option linter.unusedSimpArgs false
set_option linter.unusedVariables false
set_option maxRecDepth 20000

theorem near32 (w : World) (p q : Option Addr) (c d : Nat) (h : Sl w p 1 c [3]) (h' : Sl w q 1 d [2]) :
    Calls Tryz.prog 60 #[.agg #[.bool true, .slice p 1 c], .agg #[.bool false, .slice q 1 d]] w fun e w' => ∃ r cr, e = .returned (.tuple #[.agg #[.bool true, .slice r 1 cr], .int .i64 0]) ∧ Below w.heap.size w w' ∧ Sl w' r 1 cr [1] ∧ ∀ b o, r = some ⟨b, o, none⟩ → w.heap.size ≤ b := by
  refine (znear_up w true false p q 1 c 1 d [3] [2] h h' (by decide) (by omega) (by omega) (by decide)).mono ?_
  rintro e w' ⟨b, L, D, r, cr, rfl, hB, hS, hN, hl, hf⟩
  have e1 : fl (sg true (val [3])) (sg false (val [2])) + 1 = -1 := by decide
  have hn := hN.out
  rw [e1] at hn
  have hD : D = [1] := by rw [hn.dgs]; exact digs_small (by decide) (by decide)
  have hL : L = 1 := by rw [← hn.len, hD]; rfl
  have hb : b = true := by rw [hn.sgn]; decide
  subst hD hL hb
  exact ⟨r, cr, rfl, hB, hS.out, hf⟩

set_option maxHeartbeats 4000000 in
theorem ratnear_c (w : World) (p q : Option Addr) (c d : Nat) (h : Sl w p 1 c [3]) (h' : Sl w q 1 d [2]) :
    Calls Tryz.prog 31 #[.agg #[.bool true, .slice p 1 c, .bool false, .slice q 1 d]] w fun e w' => ∃ r cr, e = .returned (.tuple #[.agg #[.bool true, .slice r 1 cr], .int .i64 0]) ∧ Below w.heap.size w w' ∧ Sl w' r 1 cr [1] := by
  have B1 := below_alloc w (.cells #[.bool true, .slice p 1 c, .bool false, .slice q 1 d] 26)
  have B2 := below_alloc (w.alloc (.cells #[.bool true, .slice p 1 c, .bool false, .slice q 1 d] 26)) (.cells #[.bool false, .slice none 0 0] 24)
  have X1 := (rbox_alloc w true p 1 c false q 1 d).below B2
  have X2 := box_alloc (w.alloc (.cells #[.bool true, .slice p 1 c, .bool false, .slice q 1 d] 26)) false none 0 0
  rw [show (w.alloc (.cells #[.bool true, .slice p 1 c, .bool false, .slice q 1 d] 26)).heap.size = w.heap.size + 1 from by simp] at X2
  have HB := hid (B1.trans (B2.mono B1.size))
  obtain ⟨W, hW⟩ : ∃ W, (w.alloc (.cells #[.bool true, .slice p 1 c, .bool false, .slice q 1 d] 26)).alloc (.cells #[.bool false, .slice none 0 0] 24) = W := ⟨_, rfl⟩
  rw [hW] at X1 X2 HB
  obtain ⟨g, hg⟩ : ∃ g, w.heap.size = g := ⟨_, rfl⟩
  rw [hg] at X1 X2
  have B3 := below_alloc W (.cells #[.bool true, .slice p 1 c, .bool false, .slice q 1 d] 26)
  have HB3 := hid (HB.out.trans (B3.mono HB.out.size))
  have MB := hid (mayBe1 _ _ true p 1 c false q 1 d [2] (rbox_alloc W true p 1 c false q 1 d) (h'.below HB3.out) (by omega) true (by decide))
  have a0 := X1.at0
  have a1 := X1.at1
  have a2 := X1.at2
  have a3 := X1.at3
  have X1' := X1.below B3
  have X2' := X2.below B3
  have NR : Hid (∀ W', Below w.heap.size w W' → _) := fun W' hb => near32 W' p q c d (h.below hb) (h'.below hb)
  have HX1 := hid X1'
  have HX2 := hid X2'
  clear h h' B1 B2 B3 X1 X2 X1' X2'
  go_enter Tryz.func31, Tryz.ntmps31
  go_wp2_with fail
  refine MB.out.mono ?_
  rintro e w1 ⟨rfl, C1⟩
  have x1 := HX1.out.below C1
  have HXr := hid (HX2.out.below C1)
  replace a0 := x1.at0
  replace a1 := x1.at1
  replace a2 := x1.at2
  replace a3 := x1.at3
  have HB4 := hid (HB3.out.trans (C1.mono HB3.out.size))
  have N1 := hid (NR.out w1 HB4.out)
  have hlt := HXr.out.lt
  clear C1 x1 HX1 HX2 MB NR hW
  go_wp2_with fail
  refine N1.out.mono ?_
  rintro e w2 ⟨r, cr, rfl, C2, S2, F2⟩
  have x3 := HXr.out.below C2
  have HS := hid S2
  have HF := hid F2
  have HB5 := hid (HB4.out.trans (C2.mono HB4.out.size))
  have k0 := x3.at0
  have k1 := x3.at1
  have k2 := x3.frozen 0
  have k3 := x3.frozen 1
  clear C2 S2 F2 N1
  go_wp2
  have hc := x3.set true r 1 cr
  have hc0 := hc.at0
  have hc1 := hc.at1
  refine bodyPost_ret (by simp [results, Tryz.results31, go_sem, hc0, hc1]; try rfl) rfl ?_
  have va : w.heap.size ≤ g + 1 := by omega
  exact ⟨r, cr, rfl, (HB5.out.setCell va _).setCell va _, sl_set HS.out (fun b o e => by have := HF.out b o e; omega)⟩

set_option maxHeartbeats 4000000 in
theorem rattext_c (w : World) (p q : Option Addr) (c d : Nat) (h : Sl w p 1 c [2]) (h' : Sl w q 1 d [2]) :
    Calls Tryz.prog 5 #[.agg #[.bool false, .slice p 1 c, .bool false, .slice q 1 d]] w fun e w' => e = .returned (.tuple #[.string ⟨#[49]⟩, .int .i64 0]) ∧ Below w.heap.size w w' := by
  have B1 := below_alloc w (.cells #[.bool false, .slice p 1 c, .bool false, .slice q 1 d] 26)
  have X1 := rbox_alloc w false p 1 c false q 1 d
  obtain ⟨W, hW⟩ : ∃ W, w.alloc (.cells #[.bool false, .slice p 1 c, .bool false, .slice q 1 d] 26) = W := ⟨_, rfl⟩
  rw [hW] at B1 X1
  have HB := hid B1
  obtain ⟨g, hg⟩ : ∃ g, w.heap.size = g := ⟨_, rfl⟩
  rw [hg] at X1
  have B3 := below_alloc W (.cells #[.bool false, .slice p 1 c, .bool false, .slice q 1 d] 26)
  have HB3 := hid (HB.out.trans (B3.mono HB.out.size))
  have MB := hid (mayBe1 _ _ false p 1 c false q 1 d [2] (rbox_alloc W false p 1 c false q 1 d) (h'.below HB3.out) (by omega) true (by decide))
  have a0 := X1.at0
  have a1 := X1.at1
  have a2 := X1.at2
  have a3 := X1.at3
  have HX1 := hid (X1.below B3)
  have LW : Hid (∀ W', Below w.heap.size w W' → _) := fun W' hb => lowest22 W' p q c d (h.below hb) (h'.below hb)
  clear h h' B1 B3 X1
  go_enter Tryz.func5, Tryz.ntmps5
  go_wp2_with fail
  refine MB.out.mono ?_
  rintro e w1 ⟨rfl, C1⟩
  have HXr := hid (HX1.out.below C1)
  replace a0 := HXr.out.at0
  replace a1 := HXr.out.at1
  replace a2 := HXr.out.at2
  replace a3 := HXr.out.at3
  have HB4 := hid (HB3.out.trans (C1.mono HB3.out.size))
  have N1 := hid (LW.out w1 HB4.out)
  have hlt := HXr.out.lt
  clear C1 HX1 MB LW hW
  go_wp2_with fail
  refine N1.out.mono ?_
  rintro e w2 ⟨r1, k1, r2, k2, rfl, C2, S1, S2, F1, F2⟩
  have x3 := HXr.out.below C2
  have HB5 := hid (HB4.out.trans (C2.mono HB4.out.size))
  have i0 := x3.at0
  have i1 := x3.at1
  have i2 := x3.at2
  have i3 := x3.at3
  have i4 := x3.frozen 0
  have i5 := x3.frozen 1
  have i6 := x3.frozen 2
  have i7 := x3.frozen 3
  have hx := x3.set false r1 1 k1 false r2 1 k2
  have HS1 := hid (sl_set4 (g2 := g) (v0 := .bool false) (v1 := .slice r1 1 k1) (v2 := .bool false) (v3 := .slice r2 1 k2) S1 (fun b o e => by have := F1 b o e; omega))
  have HS2 := hid (sl_set4 (g2 := g) (v0 := .bool false) (v1 := .slice r1 1 k1) (v2 := .bool false) (v3 := .slice r2 1 k2) S2 (fun b o e => by have := F2 b o e; omega))
  have va : w.heap.size ≤ g := by omega
  have HB6 := hid (below_set4 (g := g) (v0 := .bool false) (v1 := .slice r1 1 k1) (v2 := .bool false) (v3 := .slice r2 1 k2) HB5.out va)
  obtain ⟨W2, hW2⟩ : ∃ W2, (((w2.setCell ⟨g, 0, none⟩ (.bool false)).setCell ⟨g, 1, none⟩ (.slice r1 1 k1)).setCell ⟨g, 2, none⟩ (.bool false)).setCell ⟨g, 3, none⟩ (.slice r2 1 k2) = W2 := ⟨_, rfl⟩
  rw [hW2] at hx HS1 HS2 HB6
  have j0 := hx.at0
  have j1 := hx.at1
  have j2 := hx.at2
  have j3 := hx.at3
  clear C2 S1 S2 F1 F2 N1 a0 a1 a2 a3
  go_wp2
  clear hW2 i0 i1 i2 i3 i4 i5 i6 i7
  go_region_held3 (fun w' => w'.cell? ⟨g, 0, none⟩ = some (.bool false) ∧ w'.cell? ⟨g, 1, none⟩ = some (.slice r1 1 k1) ∧ w'.cell? ⟨g, 2, none⟩ = some (.bool false) ∧ w'.cell? ⟨g, 3, none⟩ = some (.slice r2 1 k2) ∧ Hid (Below w.heap.size w w'))
    (first | (with_reducible exact keep4b (by assumption) hBz) | (exact ⟨j0, j1, j2, j3, HB6.out.drew⟩) | fail)
    (first | (go_at_call 16; refine (zof1 _).mono ?_; rintro e wo ⟨ro, ko, rfl, hBz, So⟩; have T1 := hid ((HS1.out.below (Below.refl _ _).drew).below hBz); have T2 := hid ((HS2.out.below (Below.refl _ _).drew).below hBz))
           | (go_at_call 15; refine (zcompare_c _ false false r2 ro 1 k2 1 ko [1] [1] T2.out So.out (by omega) (by omega)).mono ?_; rintro e wp ⟨rfl, hBz⟩; have HT := hid (keep4b (w := w) (by assumption) hBz); have T3 := hid (T1.out.below hBz)))
  obtain ⟨m0, m1, _, _, HB7⟩ := HT.out
  have TX := hid (ztext1 wp r1 1 k1 [1] T3.out rfl (by omega))
  go_wp2_with (go_at_call 17; refine TX.out.mono ?_; rintro e wx ⟨rfl, hBx⟩)
  go_ret2
  have HF := HB7.out.trans (hBx.mono HB7.out.size)
  first | exact ⟨rfl, HF⟩ | exact ⟨rfl, by rw [← hg]; exact HF⟩

theorem half3 (w : World) : Calls Tryz.prog 32 #[.int .i64 (-3)] w fun e w' => ∃ r1 k1 r2 k2, e = .returned (.agg #[.bool true, .slice r1 1 k1, .bool false, .slice r2 1 k2]) ∧ Below w.heap.size w w' ∧ Sl w' r1 1 k1 [3] ∧ Sl w' r2 1 k2 [2] := by
  have := half_c w (-3) 3 (by decide) (by omega) (by omega)
  rwa [show ng (-3) = true from by decide] at this
theorem half2 (w : World) : Calls Tryz.prog 32 #[.int .i64 2] w fun e w' => ∃ r1 k1 r2 k2, e = .returned (.agg #[.bool false, .slice r1 1 k1, .bool false, .slice r2 1 k2]) ∧ Below w.heap.size w w' ∧ Sl w' r1 1 k1 [2] ∧ Sl w' r2 1 k2 [2] := by
  have := half_c w 2 2 (by decide) (by omega) (by omega)
  rwa [show ng 2 = false from by decide] at this
theorem rof1 (w : World) : Calls Tryz.prog 33 #[.int .i64 (-1)] w fun e w' => ∃ r cr, e = .returned (.agg #[.bool true, .slice r 1 cr]) ∧ Below w.heap.size w w' ∧ Hid (Sl w' r 1 cr [1]) := by
  refine (zrof_c w (-1) (by omega) (by omega)).mono ?_
  rintro e w' ⟨r, cr, rfl, Z⟩
  have d : digs (-1 : Int).natAbs = [1] := digs_small (by decide) (by decide)
  have hs := Z.sl
  rw [d] at hs ⊢
  exact ⟨r, cr, by rw [show ng (-1) = true from by decide]; rfl, Z.below, hs⟩
theorem keepA2 {w w1 w2 : World} {a1 a2 : Addr} {v1 v2 : Value} (h : w1.cell? a1 = some v1 ∧ w1.cell? a2 = some v2 ∧ Hid (Below w.heap.size w w1)) (hb : Below w1.heap.size w1 w2) :
    w2.cell? a1 = some v1 ∧ w2.cell? a2 = some v2 ∧ Hid (Below w.heap.size w w2) := ⟨cell_below h.1 hb, cell_below h.2.1 hb, Below.trans h.2.2 (hb.mono (Below.size h.2.2))⟩

set_option maxHeartbeats 4000000 in
/-- awake: true. -/
theorem rawake_c (w : World) : Calls Tryz.prog 11 #[] w fun e w' => e = .returned (.bool true) ∧ Below w.heap.size w w' := by
  have H3 := hid half3
  have H2 := hid half2
  have RN := hid ratnear_c
  have RT := hid rattext_c
  go_enter Tryz.func11, Tryz.ntmps11
  go_wp2_with fail
  refine (H3.out _).mono ?_
  rintro e w1 ⟨r1, k1, r2, k2, rfl, C1, S1, S2⟩
  have HB1 := hid C1
  have N1 := hid (RN.out w1 r1 r2 k1 k2 S1 S2)
  clear C1 S1 S2 H3 RN
  go_wp2_with fail
  refine N1.out.mono ?_
  rintro e w2 ⟨rn, kn, rfl, C2, Sn0⟩
  have C3 := below_alloc w2 (.cells #[.bool true, .slice rn 1 kn] 24)
  have Xn := box_alloc w2 true rn 1 kn
  obtain ⟨W2, hW2⟩ : ∃ W2, w2.alloc (.cells #[.bool true, .slice rn 1 kn] 24) = W2 := ⟨_, rfl⟩
  rw [hW2] at C3 Xn
  obtain ⟨gn, hgn⟩ : ∃ gn, w2.heap.size = gn := ⟨_, rfl⟩
  rw [hgn] at Xn
  have HXn := hid Xn
  have Sn := hid (Sn0.below C3)
  have C23 := C2.trans (C3.mono C2.size)
  have HB2 := hid (HB1.out.trans (C23.mono HB1.out.size))
  clear C2 C3 C23 Xn Sn0 N1 HB1
  go_wp2_with fail
  refine (H2.out _).mono ?_
  rintro e w3 ⟨r3, k3, r4, k4, rfl, C4, S3, S4⟩
  have HX3 := hid (HXn.out.below C4)
  have Sn3 := hid (Sn.out.below C4)
  have HB3 := hid (HB2.out.trans (C4.mono HB2.out.size))
  have N2 := hid (RT.out w3 r3 r4 k3 k4 S3 S4)
  clear C4 S3 S4 H2 RT HXn Sn HB2 hW2
  go_wp2_with fail
  refine N2.out.mono ?_
  rintro e w4 ⟨rfl, C5⟩
  have HX4 := hid (HX3.out.below C5)
  have Sn4 := hid (Sn3.out.below C5)
  have HB4 := hid (HB3.out.trans (C5.mono HB3.out.size))
  have x0 := HX4.out.at0
  have x1 := HX4.out.at1
  clear C5 N2 HX3 Sn3 HB3
  go_wp2
  go_region_held3 (fun w' => w'.cell? ⟨gn, 0, none⟩ = some (.bool true) ∧ w'.cell? ⟨gn, 1, none⟩ = some (.slice rn 1 kn) ∧ Hid (Below w.heap.size w w'))
    (first | (with_reducible exact keepA2 (by assumption) hBz) | (exact ⟨x0, x1, HB4.out.drew⟩) | fail)
    (first | (go_at_call 33; refine (rof1 _).mono ?_; rintro e wo ⟨ro, ko, rfl, hBz, So⟩; have T1 := hid ((Sn4.out.below (Below.refl _ _).drew).below hBz))
           | (go_at_call 30; refine (whole_c _ true rn ro 1 kn 1 ko [1] T1.out So.out).mono ?_; rintro e wp ⟨rfl, hBz⟩; have HT := hid (keepA2 (w := w) (by assumption) hBz)))
  obtain ⟨_, _, HB5⟩ := HT.out
  go_wp2
  go_ret
  exact ⟨rfl, HB5.out⟩
end Go.Proofs.YtaplbadcpbollaaGreatDoor
