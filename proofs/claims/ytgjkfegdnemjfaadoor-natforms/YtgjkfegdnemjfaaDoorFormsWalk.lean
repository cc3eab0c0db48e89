/-
  NatForms' walk: it returns true and writes nothing that was there.
-/
import Derived.Test.YtgjkfegdnemjfaaDoorRefB
import Derived.Test.YtgjkfegdnemjfaaDoorCopied
import Derived.Test.YtgjkfegdnemjfaaDoorTouch
namespace Go.Proofs.YtgjkfegdnemjfaaDoor
open Go.RowKit Nt
set_option linter.unusedSimpArgs false
set_option linter.unusedVariables false

theorem Copy.touch {w W wr : World} {g n cr b : Nat} {xs : List Nat} (h : Copy w W g n cr xs) (t : Touch b W wr) (hgb : g ≠ b) (hb : w.heap.size ≤ b) : Copy w wr g n cr xs :=
  ⟨t.below h.below hb, h.fresh, h.cap, h.max, t.limbs h.lie (fun b' o e _ => by simp only [Option.some.injEq, Addr.mk.injEq] at e; rw [← e.1]; exact hgb)⟩
theorem Copy.lt {w W : World} {g n cr : Nat} {xs : List Nat} (h : Copy w W g n cr xs) : g < W.heap.size := by
  obtain ⟨b, o, e, hc⟩ := h.lie xs.length (by simp)
  simp only [Option.some.injEq, Addr.mk.injEq] at e
  have := cell_some_block hc
  simp at this
  omega

set_option maxHeartbeats 4000000 in
theorem forms_walk (w : World) (p0 : Option Addr) (n0 c0 : Nat) (xs0 : List Nat) (p1 : Option Addr) (n1 c1 : Nat) (xs1 : List Nat) (h0 : Sl w p0 n0 c0 xs0) (h1 : Sl w p1 n1 c1 xs1)
    (b0 : c0 ≤ 35184372087808) (b1 : c1 ≤ 35184372087808) :
    Calls Tryd.prog 3 #[.slice p0 n0 c0, .slice p1 n1 c1] w fun e w' => e = .returned (.bool true) ∧ Below w.heap.size w w' := by
  have hn0 : n0 ≤ 35184372087808 := Nat.le_trans h0.cap b0
  have L_a := hid h0
  have L_b := hid h1
  have HO := hid h0.ok
  have HLEN := hid h0.len
  have L0 := hid h0
  have hb0 := b0
  clear h0 h1 b1
  go_enter Tryd.func3, Tryd.ntmps3
  go_wp2_with fail
  refine (copied_c _ p0 n0 c0 xs0 L_a.out b0).mono ?_
  rintro e W1 ⟨g, cr, rfl, C1⟩
  have HC := hid C1
  replace L_a := hid (L_a.out.below C1.below)
  replace L_b := hid (L_b.out.below C1.below)
  have S1 := hid (C1.sl HO.out HLEN.out)
  clear C1
  go_wp2_with fail
  refine (norm_c _ (some ⟨g, 0, none⟩) n0 cr xs0 S1.out (by omega)).mono ?_
  rintro e W2 ⟨rfl, hW2⟩
  have R2 : Res W1 W2 (some ⟨W1.heap.size, 0, none⟩) (digs (val xs0)).length (val xs0) := by
    rw [hW2]
    exact Res.row ((Below.refl _ _).alloc (Nat.le_refl _) _) (heap_alloc_last _ _) (ok_digs _) (val_digs _) (Nat.le_refl _) rfl (by have := S1.out.dl; unfold maxLen; omega)
  clear hW2
  obtain ⟨bt, hbt, htg⟩ := R2.target
  have HT := hid htg
  have HBT := hid hbt
  have HB2 := hid R2.below
  have HCL := HC
  replace HC := hid (HC.out.later R2.below)
  have hgt : g ≠ bt := by have := Copy.lt HCL.out; omega
  have hwt : w.heap.size ≤ bt := by have := HCL.out.below.size; omega
  replace L_a := hid (L_a.out.below R2.below)
  replace L_b := hid (L_b.out.below R2.below)
  have S2 := hid (S1.out.below R2.below)
  have L_n := hid R2.sl
  have HG := hid hgt
  have HW := hid hwt
  clear htg hbt R2 hgt hwt HBT HCL S1
  -- ref.Norm(a), same
  go_wp2_with fail
  refine (rnorm_c _ p0 n0 c0 xs0 L_a.out (by omega)).mono ?_
  rintro e W3 ⟨r3, cr3, rfl, A3⟩
  have B3 := A3.below
  replace HC := hid (HC.out.later B3)
  replace HT := hid (HT.out.below B3)
  replace L_a := hid (L_a.out.below B3)
  replace L_b := hid (L_b.out.below B3)
  replace S2 := hid (S2.out.below B3)
  replace L_n := hid (L_n.out.below B3)
  have L_r := hid A3.sl
  clear A3 B3 HB2
  go_wp2_with fail
  refine (same_c _ (some ⟨W1.heap.size, 0, none⟩) r3 _ _ _ _ _ L_n.out L_r.out).mono ?_
  rintro e w4 ⟨rfl, nq, rfl⟩
  generalize hW4 : World.drewN W3 nq = W4
  have B4 : Below W3.heap.size W3 W4 := by rw [← hW4]; exact below_drewN' (Below.refl _ _) nq
  replace HC := hid (HC.out.later B4)
  replace HT := hid (HT.out.below B4)
  replace L_a := hid (L_a.out.below B4)
  replace L_b := hid (L_b.out.below B4)
  replace S2 := hid (S2.out.below B4)
  clear B4 hW4 L_n L_r
  -- Cmp(x, b), ref.Cmp(a, b)
  go_wp2_with fail
  refine (cmp_s _ (some ⟨g, 0, none⟩) p1 n0 cr n1 c1 xs0 xs1 S2.out L_b.out).mono ?_
  rintro e w5 ⟨rfl, nq, rfl⟩
  generalize hW5 : World.drewN W4 nq = W5
  have B5 : Below W4.heap.size W4 W5 := by rw [← hW5]; exact below_drewN' (Below.refl _ _) nq
  replace HC := hid (HC.out.later B5)
  replace HT := hid (HT.out.below B5)
  replace L_a := hid (L_a.out.below B5)
  replace L_b := hid (L_b.out.below B5)
  replace S2 := hid (S2.out.below B5)
  clear B5 hW5
  go_wp2_with fail
  refine (rcmp_c _ p0 p1 n0 c0 n1 c1 xs0 xs1 L_a.out L_b.out).mono ?_
  rintro e w6 ⟨rfl, rfl⟩
  -- Bits(x), ref.Bits(a)
  go_wp2_with fail
  refine (bits_c _ (some ⟨g, 0, none⟩) n0 cr xs0 S2.out (by omega)).mono ?_
  rintro e w7 ⟨rfl, rfl⟩
  go_wp2_with fail
  refine (rbits_c _ p0 n0 c0 xs0 L_a.out (by omega)).mono ?_
  rintro e w8 ⟨rfl, rfl⟩
  go_wp2_with fail
  refine (awake_c _).mono ?_
  rintro e W9 ⟨rfl, B9⟩
  replace HC := hid (HC.out.later B9)
  replace HT := hid (HT.out.below B9)
  replace L_a := hid (L_a.out.below B9)
  clear B9 S2 L_b
  obtain ⟨L, hL⟩ : ∃ L, (digs (val xs0)).length = L := ⟨_, rfl⟩
  rw [hL] at HT ⊢
  have hLb : L ≤ 35184372087808 := by have := L_a.out.dl; omega
  have HLL := hid hL
  clear hL
  go_wp2_with fail
  go_loopw [38] (fun i wr => ∃ k : Nat, k ≤ L ∧ i = .int .i64 k ∧ Hid (Touch bt W9 wr ∧ Target wr (some ⟨W1.heap.size, 0, none⟩) L bt)) (fun i _ => L - (intOf i).toNat)
  case atStart => exact ⟨0, Nat.zero_le _, rfl, Touch.refl _ _, HT.out⟩
  case round =>
    obtain ⟨k, hk, rfl, HR⟩ := hrel
    by_cases hlt : k < L
    · obtain ⟨e1, ⟨x, hcx⟩, hfx⟩ := HR.out.2.cell hlt
      simp only [Option.some.injEq, Addr.mk.injEq] at e1
      obtain ⟨rfl, _⟩ := e1
      go_wp2
      go_roundw
      case rel => exact ⟨k + 1, by omega, by go_num, HR.out.1.setCell _ _, HR.out.2.set k 5⟩
      case measure => simp [intOf]; omega
    · have C2 := hid (HC.out.touch HR.out.1 HG.out HW.out)
      have L2 := hid (HR.out.1.sl L_a.out (fun b' o e hne => by
        have := L0.out.apart (g := bt) HW.out
        exact this b' o e hne))
      go_wp2_with fail
      refine (kept_c w wr g n0 cr xs0 p0 c0 C2.out L2.out b0).mono ?_
      rintro e w10 ⟨rfl, nq, rfl⟩
      go_wp2
      go_ret
      exact ⟨rfl, below_drewN' C2.out.below _⟩
end Go.Proofs.YtgjkfegdnemjfaaDoor
