/-
 nat.Root: Newton's steps, each with twice as many bits.
-/
import Derived.Test.YtoeopdmaogmjhaaRootMath
import Derived.Test.YtoeopdmaogmjhaaSetU
import Derived.Test.YtoeopdmaogmjhaaSetB
import Derived.Test.YtoeopdmaogmjhaaSetK
import Derived.Test.YtoeopdmaogmjhaaSetQ
import Derived.Test.YtoeopdmaogmjhaaRewritten
import Derived.Deep.LoopGhost
namespace Go.Proofs.Ytoeopdmaogmjhaa
open Go.RowKit Nt
set_option linter.unusedSimpArgs false
set_option linter.unusedVariables false
set_option maxRecDepth 20000

theorem up_n (w : World) (p : Option Addr) (n c a : Nat) (z : Int) (Z : Nat) (h : Num w p n c a) (hz : z = (Z : Int)) (hsz : n + Z / 32 + 1 ≤ 70368744177664) :
  Calls Try.prog 81 #[.slice p n c, .int .i64 z] w fun e w' => ∃ r cr, e = .returned (.slice r (digs (a * 2 ^ Z)).length cr) ∧ Res w w' r cr (a * 2 ^ Z) := by
 obtain ⟨xs, h1, rfl⟩ := h
 have := up_c w p n c xs z (Z / 32) (Z % 32) h1 (by omega) (Nat.mod_lt _ (by omega)) hsz
 rwa [Nat.div_add_mod] at this
theorem down_n (w : World) (p : Option Addr) (n c a : Nat) (z : Int) (Z : Nat) (h : Num w p n c a) (hz : z = (Z : Int)) (hz1 : Z ≤ 9223372036854775807) (hsz : n ≤ 70368744177664) :
  Calls Try.prog 83 #[.slice p n c, .int .i64 z] w fun e w' => ∃ r cr, e = .returned (.slice r (digs (a / 2 ^ Z)).length cr) ∧ Res w w' r cr (a / 2 ^ Z) := by
 obtain ⟨xs, h1, rfl⟩ := h
 have := down_c w p n c xs z (Z / 32) (Z % 32) h1 (by omega) (Nat.mod_lt _ (by omega)) (by omega) hsz
 rwa [Nat.div_add_mod] at this
theorem div_n (w : World) (p q : Option Addr) (n c m d a b : Nat) (h : Num w p n c a) (h' : Num w q m d b) (hb : b ≠ 0) (hs : n + 1 ≤ 70368744177664) :
  Calls Try.prog 60 #[.slice p n c, .slice q m d] w fun e w' => ∃ r cr s cs, e = .returned (.tuple #[.slice r (digs (a / b)).length cr, .slice s (digs (a % b)).length cs, .int .i64 0]) ∧ Res w w' r cr (a / b) ∧ Res w w' s cs (a % b) ∧ Two r s := by
 obtain ⟨xs, h1, rfl⟩ := h
 obtain ⟨ys, h2, rfl⟩ := h'
 exact div_c w p q n c m d xs ys h1 h2 hb hs

theorem rt1_le {m r X : Nat} (h : Rt1 m r) (hm : m ≤ X) : r ≤ X := by
 obtain ⟨h0, h1, h2⟩ := h
 rcases Nat.lt_or_ge 1 r with h3 | h3
 ·have : (r - 1) * 1 ≤ (r - 1) * (r - 1) := Nat.mul_le_mul_left _ (by omega)
  omega
 ·omega

theorem root_bits {X half : Nat} (h0 : X ≠ 0) (hh : half = (Go.bitLen X - 1) / 2) : 4 ^ half ≤ X ∧ X < 4 ^ (half + 1) := by
 obtain ⟨s1, s2⟩ := bitLen_spec X
 have s3 := s2 h0
 have e1 : (4 : Nat) ^ half = 2 ^ (2 * half) := by rw [Nat.pow_mul]
 have e2 : (4 : Nat) ^ (half + 1) = 2 ^ (2 * (half + 1)) := by rw [Nat.pow_mul]
 rw [e1, e2]
 exact ⟨Nat.le_trans (Nat.pow_le_pow_right (by omega) (by omega)) s3, Nat.lt_of_lt_of_le s1 (Nat.pow_le_pow_right (by omega) (by omega))⟩

theorem bl_len {X n : Nat} (h : (digs X).length ≤ n) : Go.bitLen X ≤ 32 * n := by
 obtain ⟨s1, s2⟩ := bitLen_spec X
 by_cases h0 : X = 0
 ·rw [h0, show Go.bitLen 0 = 0 from rfl]; omega
 ·have s3 := s2 h0
  apply Classical.byContradiction
  intro hc
  have h1 := lt_pow_digs X
  have h2 : (4294967296 : Nat) ^ (digs X).length ≤ 4294967296 ^ n := Nat.pow_le_pow_right (by omega) h
  have h3 : (4294967296 : Nat) ^ n = 2 ^ (32 * n) := by rw [Nat.pow_mul]
  have h4 : 2 ^ (32 * n) ≤ 2 ^ (Go.bitLen X - 1) := Nat.pow_le_pow_right (by omega) (by omega)
  omega

/-- What Root's loop keeps. -/
def RI (w wr : World) (X half L i known A : Nat) (r : Option Addr) (cr : Nat) : Prop :=
 Res w wr r cr A ∧ Rt1 (X / 2 ^ (2 * (half - known))) A ∧ known = half / 2 ^ (L - i)

set_option maxHeartbeats 4000000 in
theorem root_c (w : World) (p : Option Addr) (n c : Nat) (xs : List Nat) (h : Sl w p n c xs) (hs : n ≤ 35184372088832) :
    Calls Try.prog 76 #[.slice p n c] w fun e w' => ∃ R r cr, e = .returned (.slice r (digs R).length cr) ∧ Res w w' r cr R ∧ IsRoot (val xs) R := by
  obtain ⟨la, hla⟩ : ∃ la, (digs (val xs)).length = la := ⟨_, rfl⟩
  have T1 := hid (trim_s w p n c la xs hla h)
  have S1 := h.digs
  have l1 := h.dl
  have hm := h.max
  unfold maxLen at hm
  obtain ⟨X, hX⟩ : ∃ X, val xs = X := ⟨_, rfl⟩
  rw [hX] at hla S1 l1
  rw [hX]
  rw [hla] at S1 l1
  have hc1 := S1.cap
  have z0 := digs_length_zero X
  rw [hla] at z0
  by_cases hX0 : X = 0
  · have hz : la = 0 := z0.2 hX0
    subst hX0
    subst hz
    clear h S1 hX hla z0
    go_enter Try.func76, Try.ntmps76
    go_wp2_with fail
    refine T1.out.mono ?_
    rintro e w' ⟨rfl, rfl⟩
    go_wp2_with fail
    go_ret
    exact ⟨0, none, 0, rfl, Res.nil (Below.refl _ _), by omega, by omega⟩
  · have hz : la ≠ 0 := fun e => hX0 (z0.1 e)
    have hlz : ((la : Int) == 0) = false := beq_eq_false_iff_ne.2 (by omega)
    have BT := bits_c w p la c (digs X) S1 (by omega)
    rw [val_digs] at BT
    obtain ⟨bl, hbl⟩ : ∃ bl, Go.bitLen X = bl := ⟨_, rfl⟩
    rw [hbl] at BT
    have HBT := hid BT
    have hb32 : bl ≤ 32 * la := by rw [← hbl]; exact bl_len (by rw [hla]; exact Nat.le_refl _)
    have hb0 : 1 ≤ bl := by
      rw [← hbl]
      have := (bitLen_spec X).1
      rcases Nat.eq_zero_or_pos (Go.bitLen X) with e | e
      · rw [e] at this; omega
      · exact e
    obtain ⟨half, hhalf⟩ : ∃ half, (bl - 1) / 2 = half := ⟨_, rfl⟩
    have hhi : ((bl : Int) - 1) / 2 = (half : Int) := by omega
    have hhb : half ≤ 16 * la := by omega
    have HX4 := hid (root_bits (half := half) hX0 (by rw [hbl]; exact hhalf.symm))
    obtain ⟨L, hL⟩ : ∃ L, Go.bitLen half = L := ⟨_, rfl⟩
    have HL : Hid (∀ W : World, Calls Try.prog 84 #[.int .u64 half] W fun e w' => e = .returned (.int .i64 (L : Int)) ∧ w' = W) := by
      intro W
      have := len_c W half (by omega)
      rw [hL] at this
      exact this
    have hL64 : L ≤ 64 := by
      rw [← hL]
      have s := bitLen_spec half
      by_cases e : half = 0
      · rw [e, show Go.bitLen 0 = 0 from rfl]; omega
      · have := s.2 e
        apply Classical.byContradiction
        intro hc
        have : 2 ^ 64 ≤ 2 ^ (Go.bitLen half - 1) := Nat.pow_le_pow_right (by omega) (by omega)
        omega
    have HLS := hid (show half < 2 ^ L ∧ (0 < L → 2 ^ (L - 1) ≤ half) from by
      rw [← hL]
      refine ⟨(bitLen_spec half).1, fun hp => (bitLen_spec half).2 (fun e => ?_)⟩
      rw [e, show Go.bitLen 0 = 0 from rfl] at hp
      omega)
    have HS1 := hid S1
    have HLA := hid hla
    clear h S1 hX hla z0 hbl hhalf BT hL
    go_enter Try.func76, Try.ntmps76
    go_wp2_with fail
    refine T1.out.mono ?_
    rintro e w' ⟨rfl, rfl⟩
    go_wp2_with fail
    refine HBT.out.mono ?_
    rintro e w' ⟨rfl, rfl⟩
    go_wp2_with fail
    rw [hhi]
    obtain ⟨W0, hW0⟩ : ∃ W, W = w'.alloc (.cells #[.int .u32 1] 69) := ⟨_, rfl⟩
    have HR0 := hid (show Res w' W0 (some ⟨w'.heap.size, 0, none⟩) 1 1 from by
      rw [hW0]
      exact Res.row (xs := [1]) ((Below.refl _ _).alloc (Nat.le_refl _) _) (heap_alloc_last _ _) (Ok.cons (by omega) Ok.nil) rfl (Nat.le_refl _) rfl (by unfold maxLen; omega))
    rw [← hW0]
    obtain ⟨g0, hg0⟩ : ∃ g, g = w'.heap.size := ⟨_, rfl⟩
    rw [← hg0] at HR0 ⊢
    clear hW0 hg0 hhi
    refine (HL.out _).mono ?_
    rintro e w'' ⟨rfl, rfl⟩
    go_wp2_with fail
    go_loopg [4, 5, 24] L (fun gk s4 s5 s24 wr => ∃ (i known A : Nat) (r : Option Addr) (cr : Nat), L - i ≤ gk ∧ i ≤ L ∧ s24 = .int .i64 i ∧ s5 = .int .i64 known ∧ s4 = .slice r (digs A).length cr ∧ Hid (RI w' wr X half L i known A r cr))
    case atStart =>
      refine ⟨0, 0, 1, some ⟨g0, 0, none⟩, 1, Nat.sub_le _ _, Nat.zero_le _, rfl, rfl, ?_, HR0.out, root_start HX4.out.1 HX4.out.2, ?_⟩
      · rw [digs_small (by omega) (by omega)]; rfl
      · rw [Nat.sub_zero, Nat.div_eq_of_lt HLS.out.1]
    case round =>
      obtain ⟨i, known, A, r, cr, hgk, hi, rfl, rfl, rfl, HR⟩ := hrel
      have hA1 : 1 ≤ A := HR.out.2.1.1
      have hAX : A ≤ X := rt1_le HR.out.2.1 (Nat.div_le_self _ _)
      have hlA : (digs A).length ≤ la := by rw [← HLA.out]; exact digs_length_mono hAX
      have hkh : known ≤ half := by rw [HR.out.2.2]; exact Nat.div_le_self _ _
      obtain ⟨lA, hlAe⟩ : ∃ l, (digs A).length = l := ⟨_, rfl⟩
      rw [hlAe] at hlA ⊢
      have HAL := hid hlAe
      clear hlAe
      have SR : Hid (Sl wr r lA cr (digs A)) := by rw [← HAL.out]; exact HR.out.1.sl
      by_cases hlt : i < L
      · obtain ⟨last, hlast⟩ : ∃ last, L = last + 1 := ⟨L - 1, by omega⟩
        obtain ⟨y, hy⟩ : ∃ y, half / 2 ^ (last - i) = y := ⟨_, rfl⟩
        have hyh : y ≤ half := by rw [← hy]; exact Nat.div_le_self _ _
        have hyi : (half : Int) / 2 ^ (last - i) = (y : Int) := by rw [← hy]; simp
        have hky : known = y / 2 := by
          rw [HR.out.2.2, ← hy, Nat.div_div_eq_div_mul, ← Nat.pow_succ, show (last - i).succ = L - i from by omega]
        have hy1 : 1 ≤ y := by
          rw [← hy]
          apply Nat.div_pos _ (Nat.two_pow_pos _)
          have h1 := HLS.out.2 (by omega)
          exact Nat.le_trans (Nat.pow_le_pow_right (by omega) (by omega)) h1
        have HY := hid hy
        have HKY := hid hky
        subst hlast
        clear hy hky
        rw [show ((last + 1 : Nat) : Int) = (last : Int) + 1 from by omega] at HL
        go_wp2_with fail
        refine (HL.out _).mono ?_
        rintro e w'' ⟨rfl, rfl⟩
        go_wp2_with fail
        obtain ⟨Z, hZ⟩ : ∃ Z, 2 * half - known - y + 1 = Z := ⟨_, rfl⟩
        have hZi : 2 * (half : Int) - (known : Int) - (y : Int) + 1 = (Z : Int) := by omega
        have HZ := hid hZ
        refine (down_n _ p la c X _ Z (HS1.out.below HR.out.1.below).numd hZi (by omega) (by omega)).mono ?_
        rintro e W1 ⟨r1, c1, rfl, R1⟩
        have l1' : (digs (X / 2 ^ Z)).length ≤ la := by rw [← HLA.out]; exact digs_length_mono (Nat.div_le_self _ _)
        obtain ⟨L1, hL1⟩ : ∃ l, (digs (X / 2 ^ Z)).length = l := ⟨_, rfl⟩
        have N1 := R1.sl.numd
        have B1 := R1.below
        rw [hL1] at N1 l1' ⊢
        have HN1 := hid N1
        have HB1 := hid B1
        clear R1 hL1 N1 B1 hZi hZ
        go_wp2_with fail
        refine (div_n _ r1 r L1 c1 lA cr (X / 2 ^ Z) A HN1.out (SR.out.below HB1.out).numd (by omega) (by omega)).mono ?_
        rintro e W2 ⟨r2, c2, r3, c3, rfl, R2, _, _⟩
        have l2' : (digs (X / 2 ^ Z / A)).length ≤ la := by rw [← HLA.out]; exact digs_length_mono (Nat.le_trans (Nat.div_le_self _ _) (Nat.div_le_self _ _))
        obtain ⟨L2, hL2⟩ : ∃ l, (digs (X / 2 ^ Z / A)).length = l := ⟨_, rfl⟩
        have N2 := R2.sl.numd
        have B2 := HB1.out.trans (R2.below.mono HB1.out.size)
        rw [hL2] at N2 l2' ⊢
        have HN2 := hid N2
        have HB2 := hid B2
        clear R2 hL2 N2 B2 HN1 HB1
        go_wp2_with fail
        obtain ⟨k, hk⟩ : ∃ k, y - known - 1 = k := ⟨_, rfl⟩
        have hki : (y : Int) - (known : Int) - 1 = (k : Int) := by have := HKY.out; omega
        have HK := hid hk
        refine (up_n _ r lA cr A _ k (SR.out.below HB2.out).numd hki (by omega)).mono ?_
        rintro e W3 ⟨r4, c4, rfl, R4⟩
        have l3' : (digs (A * 2 ^ k)).length ≤ la := by
          have := root_round (d := y) (e := known) (by have := HKY.out; omega) (by have := HKY.out; omega) hyh HX4.out.1 HR.out.2.1
          rw [HK.out, HZ.out] at this
          have := rt1_le this (Nat.div_le_self _ _)
          rw [← HLA.out]
          exact digs_length_mono (Nat.le_trans (Nat.le_add_right _ _) this)
        obtain ⟨L3, hL3⟩ : ∃ l, (digs (A * 2 ^ k)).length = l := ⟨_, rfl⟩
        have N3 := R4.sl.numd
        have B3 := HB2.out.trans (R4.below.mono HB2.out.size)
        have N2' := HN2.out.below R4.below
        rw [hL3] at N3 l3' ⊢
        have HN3 := hid N3
        have HB3 := hid B3
        have HN2' := hid N2'
        clear R4 hL3 N3 B3 N2' HN2 HB2 hki hk
        go_wp2_with fail
        refine (add_n _ r4 r2 L3 c4 L2 c2 (A * 2 ^ k) (X / 2 ^ Z / A) HN3.out HN2'.out 70368744177663 (by omega) (by omega) (by omega)).mono ?_
        rintro e W4 ⟨r5, c5, rfl, R5, _⟩
        have HR5 := hid (R5.since HB3.out)
        clear R5
        go_wp2_with fail
        go_roundg (last + 1 - (i + 1))
        case rel =>
          refine ⟨i + 1, y, A * 2 ^ k + X / 2 ^ Z / A, r5, c5, Nat.le_refl _, by omega, by go_num, rfl, rfl, HR5.out.since HR.out.1.below, ?_, ?_⟩
          · have := root_round (d := y) (e := known) (by have := HKY.out; omega) (by have := HKY.out; omega) hyh HX4.out.1 HR.out.2.1
            rw [HK.out, HZ.out] at this
            exact this
          · rw [← HY.out, show last + 1 - (i + 1) = last - i from by omega]
        case measure => omega
      · have hiL : i = L := by omega
        have hkl : known = half := by rw [HR.out.2.2, hiL, Nat.sub_self, Nat.pow_zero, Nat.div_one]
        have HRT : Hid (Rt1 X A) := by
          have := HR.out.2.1
          rwa [hkl, Nat.sub_self, Nat.mul_zero, Nat.pow_zero, Nat.div_one] at this
        have HRS := hid HR.out.1
        subst hiL
        clear HR hkl HL HLS
        go_wp2_with fail
        refine (mul_n _ r r lA cr lA cr A A SR.out.numd SR.out.numd 70368744177664 (by omega) (by omega)).mono ?_
        rintro e W1 ⟨r1, c1, rfl, R1, Z1⟩
        obtain ⟨L1, hL1⟩ : ∃ l, (digs (A * A)).length = l := ⟨_, rfl⟩
        have N1 := R1.sl.numd
        have B1 := R1.below
        rw [hL1] at N1 ⊢
        have CM := cmp_n W1 r1 p L1 c1 la c (A * A) X N1 ((HS1.out.below HRS.out.below).below B1).numd
        have HCM := hid CM
        have HB1 := hid B1
        clear R1 Z1 hL1 N1 B1 CM
        rcases Nat.lt_or_ge X (A * A) with hgt | hle
        · have hcm : cmpN (A * A) X = 1 := by
            unfold cmpN
            rw [if_neg (by omega), if_neg (by omega)]
          rw [hcm] at HCM
          have HGT := hid hgt
          clear hcm hgt
          go_wp2_with fail
          refine HCM.out.mono ?_
          rintro e W2 ⟨rfl, nq, rfl⟩
          go_wp2_with fail
          obtain ⟨b, o, rfl, _⟩ := SR.out.lie 0 (by rw [HAL.out]; have := digs_length_zero A; rw [HAL.out] at this; omega)
          obtain ⟨rfl, hgb, rest, hblk, hor, hcr⟩ := HRS.out.own b o rfl
          have hbin := HRS.out.in b 0 rfl
          have hbs := HB1.out.size
          obtain ⟨W2, hW2⟩ : ∃ W, W = (W1.drewN nq).alloc (.cells #[.int .u32 1] 69) := ⟨_, rfl⟩
          have hB2 : Below wr.heap.size wr W2 := by rw [hW2]; exact (below_drewN' HB1.out nq).alloc (by simpa using hbs) _
          have hS1 : Sl W2 (some ⟨W1.heap.size, 0, none⟩) 1 1 [1] := by
            rw [hW2]
            exact sl_one (heap_alloc_last _ _) (by omega)
          rw [← hW2]
          have hSRm := SR.out.max
          have hSRc := SR.out.cap
          rw [HAL.out] at hcr
          refine (subFrom_c W2 b (digs A) lA cr (some ⟨W1.heap.size, 0, none⟩) 1 1 [1] HAL.out hSRc hSRm rest (hblk.below hB2) (ok_digs _) hS1 (fun b' o' e _ => by
            simp only [Option.some.injEq, Addr.mk.injEq] at e
            omega) (by have := digs_length_zero A; rw [HAL.out] at this; omega) (by rw [val_digs]; simp [val]; omega)).mono ?_
          rintro e W3 ⟨Z, hZl, hZo, hZv, rfl, hWr⟩
          have hvZ : val Z = A - 1 := by
            rw [val_digs] at hZv
            simp [val] at hZv
            omega
          have hblk3 := Wr.blk (hblk.below hB2) hWr
          have hSZ : Sl W3 (some ⟨b, 0, none⟩) lA cr Z := ⟨hZl, hSRc, hSRm, (fun e => by cases e), hZo, by
            have := hblk3.limbs.take Z.length
            rwa [List.take_left] at this⟩
          have T2 := hid (trim_s W3 (some ⟨b, 0, none⟩) lA cr (digs (A - 1)).length Z (by rw [hvZ]) hSZ)
          have RF := hid (Res.rewritten (w := w') (W := W2) (g := b) (c := cr) (D := digs A) (rest := rest) (Z := Z) (A := A - 1) (HRS.out.below.trans (hB2.mono HRS.out.below.size)) (hblk.below hB2) hgb (by rw [HAL.out]; exact hcr) hSRm hor (by rw [HAL.out]; exact hZl) hZo hvZ hWr)
          clear hW2 hS1 hSRm hZl hZo hZv hWr hvZ hblk3 hSZ hblk hor hcr
          go_wp2_with fail
          refine T2.out.mono ?_
          rintro e W4 ⟨rfl, rfl⟩
          go_wp2_with fail
          go_ret
          exact ⟨A - 1, some ⟨b, 0, none⟩, cr, rfl, RF.out, root_end_down HRT.out HGT.out⟩
        · have hcm : ¬ 0 < cmpN (A * A) X := by
            unfold cmpN
            split
            · omega
            · rw [if_pos (by omega)]; omega
          obtain ⟨cv, hcv⟩ : ∃ cv, cmpN (A * A) X = cv := ⟨_, rfl⟩
          rw [hcv] at HCM hcm
          have HLE := hid hle
          clear hcv hle
          go_wp2_with fail
          refine HCM.out.mono ?_
          rintro e W2 ⟨rfl, nq, rfl⟩
          have T2 := hid (trim_s (W1.drewN nq) r lA cr lA (digs A) (by rw [val_digs]; exact HAL.out) (SR.out.below (below_drewN' HB1.out nq)))
          go_wp2_with fail
          refine T2.out.mono ?_
          rintro e W3 ⟨rfl, rfl⟩
          go_wp2_with fail
          go_ret
          refine ⟨A, r, cr, by rw [HAL.out]; rfl, HRS.out.later (below_drewN' HB1.out nq), root_end_same HRT.out (by have := HLE.out; omega)⟩
end Go.Proofs.Ytoeopdmaogmjhaa
