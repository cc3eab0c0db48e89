/-
  The document's own answer: Pow.
-/
import Derived.Test.YtgjkfegdnemjfabDoorRefMul
import Derived.Test.YtgjkfegdnemjfabDoorPower
namespace Go.Proofs.YtgjkfegdnemjfabDoor
open Go.RowKit Nt
set_option linter.unusedSimpArgs false
set_option linter.unusedVariables false

set_option maxHeartbeats 4000000 in
theorem rpow_c (w : World) (p : Option Addr) (n c : Nat) (xs : List Nat) (z : Int) (h : Sl w p n c xs) (hn : n ≤ 1048576) (hz : -9223372036854775808 ≤ z) (hz' : z ≤ 9223372036854775807) :
    Calls Tryd.prog 10 #[.slice p n c, .int .i64 z] w fun e w' => ∃ r cr, e = .returned (.tuple #[.slice r (digs (powV (val xs) z)).length cr, .int .i64 (powE (val xs) z)]) ∧ Sl w' r (digs (powV (val xs) z)).length cr (digs (powV (val xs) z)) ∧ Below w.heap.size w w' := by
  have HX := hid h
  have hdl := h.dl
  by_cases h1 : z < 0
  · have e1 : powV (val xs) z = 0 := by simp [powV, h1]
    have e2 : powE (val xs) z = 1 := by simp [powE, h1]
    rw [e1, e2]
    clear h e1 e2
    go_enter Tryd.func10, Tryd.ntmps10
    go_wp2_with fail
    go_ret2
    exact ⟨none, 0, rfl, nil_ans _, Below.refl _ _⟩
  obtain ⟨x, rfl⟩ := Int.eq_ofNat_of_zero_le (show 0 ≤ z by omega)
  have hneg : ¬ ((x : Int) < 0) := by omega
  obtain ⟨bl, hbl⟩ : ∃ bl, Go.bitLen (val xs) = bl := ⟨_, rfl⟩
  have hbl32 : bl ≤ 33554432 := by
    rw [← hbl]
    have := bl_val_le (n := 1048576) h.ok (by rw [h.len]; exact hn)
    omega
  have HN := hid (rnorm_c w p n c xs h (by omega))
  obtain ⟨k, hk⟩ : ∃ k, (digs (val xs)).length = k := ⟨_, rfl⟩
  rw [hk] at HN hdl
  have HBits : Hid (∀ (W : World) (r : Option Addr) (cr : Nat), Sl W r k cr (digs (val xs)) → Calls Tryd.prog 32 #[.slice r k cr] W fun e w' => e = .returned (.int .i64 bl) ∧ w' = W) := by
    intro W r cr hs
    have := rbits_c W r k cr (digs (val xs)) hs (by omega)
    rw [val_digs, hbl] at this
    exact this
  by_cases h3 : val xs ≤ 1
  · have hb1 : bl ≤ 1 := by rw [← hbl]; exact bl_le_one.2 h3
    by_cases h2 : x = 0
    · subst h2
      have e1 : powV (val xs) ((0 : Nat) : Int) = 1 := by simp [powV]
      have e2 : powE (val xs) ((0 : Nat) : Int) = 0 := by simp [powE]
      have d1 : digs 1 = [1] := digs_small (by omega) (by omega)
      rw [e1, e2, d1]
      clear h e1 e2 d1 hbl
      go_enter Tryd.func10, Tryd.ntmps10
      go_wp2_with fail
      refine HN.out.mono ?_
      rintro e W1 ⟨r, cr, rfl, A⟩
      have HA := hid A
      have hsl : Sl W1 r k cr (digs (val xs)) := by have := A.sl; rw [hk] at this; exact this
      have HSL := hid hsl
      have HK := hid hk
      clear A hsl hk
      go_wp2_with fail
      refine (HBits.out _ r cr HSL.out).mono ?_
      rintro e W2 ⟨rfl, rfl⟩
      go_wp2
      go_ret2
      exact ⟨_, _, rfl, sl_one (blk_one (z := 1) rfl (heap_alloc_last _ _)) (by omega), HA.out.below.alloc HA.out.below.size _⟩
    · have e1 : powV (val xs) x = val xs := by simp [powV, h2, h3, hneg]
      have e2 : powE (val xs) x = 0 := by simp [powE, h2, h3, hneg]
      rw [e1, e2, hk]
      have hz0 : ((x : Int) == 0) = false := beq_eq_false_iff_ne.2 (by omega)
      clear h e1 e2 hbl
      go_enter Tryd.func10, Tryd.ntmps10
      go_wp2_with fail
      refine HN.out.mono ?_
      rintro e W1 ⟨r, cr, rfl, A⟩
      have HA := hid A
      have hsl : Sl W1 r k cr (digs (val xs)) := by have := A.sl; rw [hk] at this; exact this
      have HSL := hid hsl
      have HK := hid hk
      clear A hsl hk
      go_wp2_with fail
      refine (HBits.out _ r cr HSL.out).mono ?_
      rintro e W2 ⟨rfl, rfl⟩
      go_wp2
      go_ret2
      exact ⟨r, cr, rfl, HSL.out, HA.out.below⟩
  have hb2 : 2 ≤ bl := by
    apply Classical.byContradiction
    intro hc
    exact h3 (bl_le_one.1 (by omega))
  by_cases h4 : 1048576 < bl * x
  · have hx0 : x ≠ 0 := by intro e; subst e; simp at h4
    have e1 : powV (val xs) x = 0 := by simp [powV, hx0, h3, hbl, h4, hneg]
    have e2 : powE (val xs) x = 2 := by simp [powE, hx0, h3, hbl, h4, hneg]
    rw [e1, e2]
    by_cases h5 : 1048576 < x
    · clear h e1 e2 hbl h4
      go_enter Tryd.func10, Tryd.ntmps10
      go_wp2_with fail
      refine HN.out.mono ?_
      rintro e W1 ⟨r, cr, rfl, A⟩
      have HA := hid A
      have hsl : Sl W1 r k cr (digs (val xs)) := by have := A.sl; rw [hk] at this; exact this
      have HSL := hid hsl
      have HK := hid hk
      clear A hsl hk
      go_wp2_with fail
      refine (HBits.out _ r cr HSL.out).mono ?_
      rintro e W2 ⟨rfl, rfl⟩
      go_wp2
      go_ret2
      exact ⟨none, 0, rfl, nil_ans _, HA.out.below⟩
    · have hm1 : bl * x ≤ 35184372088832 := by
        have := Nat.mul_le_mul hbl32 (show x ≤ 1048576 by omega)
        omega
      have hm2 : (bl : Int) * (x : Int) ≤ 35184372088832 := by rw [← Int.natCast_mul]; omega
      have hm3 : (1048576 : Int) < (bl : Int) * (x : Int) := by rw [← Int.natCast_mul]; omega
      clear h e1 e2 hbl h4 hm1
      go_enter Tryd.func10, Tryd.ntmps10
      go_wp2_with fail
      refine HN.out.mono ?_
      rintro e W1 ⟨r, cr, rfl, A⟩
      have HA := hid A
      have hsl : Sl W1 r k cr (digs (val xs)) := by have := A.sl; rw [hk] at this; exact this
      have HSL := hid hsl
      have HK := hid hk
      clear A hsl hk
      go_wp2_with fail
      refine (HBits.out _ r cr HSL.out).mono ?_
      rintro e W2 ⟨rfl, rfl⟩
      go_wp2_with fail
      refine (HBits.out _ r cr HSL.out).mono ?_
      rintro e W3 ⟨rfl, rfl⟩
      go_wp2
      go_ret2
      exact ⟨none, 0, rfl, nil_ans _, HA.out.below⟩
  · have hx20 : x ≤ 1048576 := by
      have : 2 * x ≤ bl * x := Nat.mul_le_mul_right _ hb2
      omega
    have e1 : powV (val xs) x = val xs ^ x := by
      by_cases e : x = 0
      · subst e; simp [powV]
      · simp [powV, e, h3, hbl, h4, hneg]
    have e2 : powE (val xs) x = 0 := by
      by_cases e : x = 0
      · subst e; simp [powE]
      · simp [powE, e, h3, hbl, h4, hneg]
    rw [e1, e2]
    have hm2 : (bl : Int) * (x : Int) ≤ 1048576 := by rw [← Int.natCast_mul]; omega
    have hm3 : 0 ≤ (bl : Int) * (x : Int) := by rw [← Int.natCast_mul]; omega
    have hlen : Hid (∀ e, e ≤ x → (digs (val xs ^ e)).length ≤ 32769) := fun e he =>
      pow_len (M := 1048576) (bitLen_spec (val xs)).1 (by rw [hbl]; exact Nat.le_trans (Nat.mul_le_mul_left _ he) (by omega)) (by omega)
    clear h e1 e2 hbl h4
    go_enter Tryd.func10, Tryd.ntmps10
    go_wp2_with fail
    refine HN.out.mono ?_
    rintro e W1 ⟨r, cr, rfl, A⟩
    have HA := hid A
    have hsl : Sl W1 r k cr (digs (val xs)) := by have := A.sl; rw [hk] at this; exact this
    have HSL := hid hsl
    have HK := hid hk
    clear A hsl hk
    go_wp2_with fail
    refine (HBits.out _ r cr HSL.out).mono ?_
    rintro e W2 ⟨rfl, rfl⟩
    go_wp2_with fail
    refine (HBits.out _ r cr HSL.out).mono ?_
    rintro e W3 ⟨rfl, rfl⟩
    go_wp2_with fail
    go_loopw [7, 8] (fun v i wr => ∃ j : Nat, j ≤ x ∧ i = .int .i64 j ∧ ∃ r2 c2, v = .slice r2 (digs (val xs ^ j)).length c2 ∧ Hid (Sl wr r2 (digs (val xs ^ j)).length c2 (digs (val xs ^ j)) ∧ Below W3.heap.size W3 wr)) (fun _ i _ => x - (intOf i).toNat)
    case atStart =>
      have d1 : digs 1 = [1] := digs_small (by omega) (by omega)
      refine ⟨0, Nat.zero_le _, rfl, some ⟨W3.heap.size, 0, none⟩, 1, ?_, ?_, (Below.refl _ _).alloc (Nat.le_refl _) _⟩
      · rw [Nat.pow_zero, d1]; rfl
      · rw [Nat.pow_zero, d1]
        exact sl_one (blk_one (z := 1) rfl (heap_alloc_last _ _)) (by omega)
    case round =>
      obtain ⟨j, hj, rfl, r2, c2, rfl, HR⟩ := hrel
      by_cases hlt : j < x
      · have hl2 := hlen.out j (by omega)
        have HL2 := hid hl2
        have HS3 := hid (HSL.out.below HR.out.2)
        clear hl2
        go_wp2_with fail
        refine (rmul_c _ r2 r _ c2 k cr (digs (val xs ^ j)) (digs (val xs)) HR.out.1 HS3.out (by have := HL2.out; omega)).mono ?_
        rintro e W4 ⟨r4, c4, rfl, A4⟩
        rw [val_digs, val_digs, ← Nat.pow_succ] at A4 ⊢
        have HA4 := hid A4
        clear A4
        go_wp2
        go_roundw
        case rel => exact ⟨j + 1, by omega, by go_num, r4, c4, rfl, HA4.out.sl, HR.out.2.trans (HA4.out.below.mono HR.out.2.size)⟩
        case measure => simp [intOf]; omega
      · have hjx : j = x := by omega
        subst hjx
        go_wp2
        go_ret2
        exact ⟨r2, c2, rfl, HR.out.1, HA.out.below.trans (HR.out.2.mono HA.out.below.size)⟩

set_option maxHeartbeats 4000000 in
theorem powers_walk (w : World) (p0 : Option Addr) (n0 c0 : Nat) (xs0 : List Nat) (x1 : Int) (h0 : Sl w p0 n0 c0 xs0) (b0 : c0 ≤ 1048576) (b1 : -9223372036854775808 ≤ x1 ∧ x1 ≤ 9223372036854775807) :
    Calls Tryd.prog 3 #[.slice p0 n0 c0, .int .i64 x1] w fun e w' => e = .returned (.bool true) ∧ Below w.heap.size w w' := by
  have hn : n0 ≤ 1048576 := Nat.le_trans h0.cap b0
  have P1 := hid (pow_c w p0 n0 c0 xs0 x1 h0 hn b1.1 b1.2)
  have P2 : Hid (∀ W : World, Sl W p0 n0 c0 xs0 → Calls Tryd.prog 10 #[.slice p0 n0 c0, .int .i64 x1] W fun e w' => ∃ r cr, e = .returned (.tuple #[.slice r (digs (powV (val xs0) x1)).length cr, .int .i64 (powE (val xs0) x1)]) ∧ Sl w' r (digs (powV (val xs0) x1)).length cr (digs (powV (val xs0) x1)) ∧ Below W.heap.size W w') :=
    fun W hW => rpow_c W p0 n0 c0 xs0 x1 hW hn b1.1 b1.2
  have HX := hid h0
  clear h0 b1
  generalize powV (val xs0) x1 = V at *
  generalize powE (val xs0) x1 = E at *
  go_enter Tryd.func3, Tryd.ntmps3
  go_wp2_with fail
  refine P1.out.mono ?_
  rintro e W1 ⟨r1, c1, rfl, s1, B1⟩
  have HS1 := hid s1
  have HB1 := hid B1
  clear s1 B1
  go_wp2_with fail
  refine (P2.out _ (HX.out.below HB1.out)).mono ?_
  rintro e W2 ⟨r2, c2, rfl, s2, B2⟩
  have HS2 := hid s2
  have HT1 := hid (HS1.out.below B2)
  have HB2 := hid (HB1.out.trans (B2.mono HB1.out.size))
  clear s2 B2
  go_wp2_with fail
  refine (same_c _ r1 r2 _ _ _ _ _ HT1.out HS2.out).mono ?_
  rintro e w3 ⟨rfl, nq, rfl⟩
  generalize hW3 : World.drewN W2 nq = W3
  have HB3 : Hid (Below w.heap.size w W3) := by rw [← hW3]; exact below_drewN' HB2.out nq
  clear hW3
  go_wp2_with fail
  refine (awake_c _).mono ?_
  rintro e W4 ⟨rfl, B4⟩
  have HB4 := hid (HB3.out.trans (B4.mono HB3.out.size))
  clear B4
  go_wp2
  go_ret
  exact ⟨rfl, HB4.out⟩
end Go.Proofs.YtgjkfegdnemjfabDoor
