/-
  The document's Root: bit by bit from the top.
-/
import Derived.Test.YtcngoobdknifdaaDoorRefShift
import Derived.Test.YtcngoobdknifdaaDoorRootMath
import Derived.Test.YtcngoobdknifdaaDoorRoot
import Derived.Deep.LoopGhost
namespace Go.Proofs.YtcngoobdknifdaaDoor
open Go.RowKit Nt
set_option linter.unusedSimpArgs false
set_option linter.unusedVariables false

/-- What the loop keeps: the root's bits from the k-th on. -/
def RB (X k R : Nat) : Prop := R * R ≤ X ∧ X < (R + 2 ^ k) * (R + 2 ^ k)
theorem rb_yes {X k R : Nat} (h : RB X (k + 1) R) (hc : (R + 2 ^ k) * (R + 2 ^ k) ≤ X) : RB X k (R + 2 ^ k) := by
  refine ⟨hc, ?_⟩
  have := h.2
  rw [show R + 2 ^ (k + 1) = R + 2 ^ k + 2 ^ k from by rw [Nat.pow_succ]; omega] at this
  exact this
theorem rb_no {X k R : Nat} (h : RB X (k + 1) R) (hc : X < (R + 2 ^ k) * (R + 2 ^ k)) : RB X k R := ⟨h.1, hc⟩
theorem rb_start {X n : Nat} (h : Go.bitLen X ≤ 2 * n) : RB X (n + 1) 0 := by
  refine ⟨by omega, ?_⟩
  rw [Nat.zero_add, ← Nat.pow_add]
  exact Nat.lt_of_lt_of_le (bitLen_spec X).1 (Nat.pow_le_pow_right (by omega) (by omega))
theorem rb_end {X R : Nat} (h : RB X 0 R) : IsRoot X R := h
theorem sq_lt {R X n : Nat} (h : R * R ≤ X) (hX : X < 2 ^ (2 * n)) : R < 2 ^ n := by
  apply Classical.byContradiction
  intro hc
  have h1 : 2 ^ n * 2 ^ n ≤ R * R := Nat.mul_le_mul (by omega) (by omega)
  rw [← Nat.pow_add, show n + n = 2 * n from by omega] at h1
  omega
/-- How many limbs the next try has. -/
theorem rb_len {R X n k : Nat} (h : R * R ≤ X) (hX : Go.bitLen X ≤ 2 * n) (hk : k ≤ n) : (digs (R + 2 ^ k)).length ≤ n / 32 + 1 := by
  have h1 := sq_lt h (Nat.lt_of_lt_of_le (bitLen_spec X).1 (Nat.pow_le_pow_right (by omega) hX))
  have h2 : 2 ^ k ≤ 2 ^ n := Nat.pow_le_pow_right (by omega) hk
  refine len_of_bits (b := n + 1) ?_ (by omega)
  rw [Nat.pow_succ]
  omega

set_option maxHeartbeats 4000000 in
theorem rroot_c (w : World) (p : Option Addr) (n c : Nat) (xs : List Nat) (h : Sl w p n c xs) (hs : n ≤ 35184372087808) :
    Calls Tryd.prog 17 #[.slice p n c] w fun e w' => ∃ R r cr, e = .returned (.slice r (digs R).length cr) ∧ Sl w' r (digs R).length cr (digs R) ∧ Below w.heap.size w w' ∧ IsRoot (val xs) R := by
  have BT := rbits_c w p n c xs h (by omega)
  have hbl0 := bl_len h.dl
  obtain ⟨bl, hbl⟩ : ∃ bl, Go.bitLen (val xs) = bl := ⟨_, rfl⟩
  rw [hbl] at BT hbl0
  obtain ⟨N, hN⟩ : ∃ N, (bl + 1) / 2 = N := ⟨_, rfl⟩
  have hNi : ((bl : Int) + 1) / 2 = (N : Int) := by omega
  have hb2 : bl ≤ 2 * N := by omega
  have hN1 : N ≤ 16 * n + 1 := by omega
  have HBL := hid hbl
  have HBT := hid BT
  have HX := hid h
  clear h BT hbl hN
  go_enter Tryd.func17, Tryd.ntmps17
  go_wp2_with fail
  refine HBT.out.mono ?_
  rintro e w' ⟨rfl, rfl⟩
  go_wp2_with fail
  rw [hNi]
  clear hNi
  go_loopg [3, 4] (N + 1) (fun gk s3 s4 wr => ∃ (k R : Nat) (z : Int) (r : Option Addr) (cr : Nat), k ≤ gk ∧ k ≤ N + 1 ∧ z = (k : Int) - 1 ∧ s4 = .int .i64 z ∧ s3 = .slice r (digs R).length cr ∧ Hid (Sl wr r (digs R).length cr (digs R) ∧ Below w'.heap.size w' wr ∧ RB (val xs) k R))
  case atStart =>
    refine ⟨N + 1, 0, N, none, 0, Nat.le_refl _, Nat.le_refl _, by omega, rfl, rfl, Sl.none _, Below.refl _ _, rb_start (by rw [HBL.out]; exact hb2)⟩
  case round =>
    obtain ⟨k, R, z, r, cr, hgk, hk, hz, rfl, rfl, HR⟩ := hrel
    rcases Nat.eq_zero_or_pos k with h0 | h0
    · subst h0
      have hz' : z < 0 := by omega
      clear hz
      go_wp2_with fail
      go_ret
      exact ⟨R, r, cr, rfl, HR.out.1, HR.out.2.1, rb_end HR.out.2.2⟩
    · obtain ⟨j, rfl⟩ : ∃ j, k = j + 1 := ⟨k - 1, by omega⟩
      have hzj : z = (j : Int) := by omega
      subst hzj
      clear hz h0
      have hRl : (digs R).length ≤ N / 32 + 1 := Nat.le_trans (digs_length_mono (Nat.le_add_right R (2 ^ j))) (rb_len HR.out.2.2.1 (by rw [HBL.out]; exact hb2) (by omega))
      have hMl : (digs (R + 2 ^ j)).length ≤ N / 32 + 1 := rb_len HR.out.2.2.1 (by rw [HBL.out]; exact hb2) (by omega)
      obtain ⟨lR, hlR⟩ : ∃ l, (digs R).length = l := ⟨_, rfl⟩
      have SR : Hid (Sl wr r lR cr (digs R)) := by rw [← hlR]; exact HR.out.1
      rw [hlR] at hRl ⊢
      have HLR := hid hlR
      clear hlR
      go_wp2_with fail
      refine (rtwo_g _ j (by omega)).mono ?_
      rintro e W1 ⟨r1, c1, rfl, T, hT, hTv, hB1⟩
      have HT := hid hT
      have HTV := hid hTv
      have HB1 := hid hB1
      clear hT hTv hB1
      obtain ⟨lT, hlT⟩ : ∃ l, j / 32 + 1 = l := ⟨_, rfl⟩
      have hlTb : lT ≤ N / 32 + 1 := by omega
      rw [hlT] at HT ⊢
      clear hlT
      have AD := radd_c W1 r r1 lR cr lT c1 (digs R) T (SR.out.below HB1.out) HT.out (by omega) (by omega)
      rw [val_digs, HTV.out] at AD
      have HAD := hid AD
      clear AD
      go_wp2_with fail
      refine HAD.out.mono ?_
      rintro e W2 ⟨r2, c2, rfl, A2⟩
      obtain ⟨lM, hlM⟩ : ∃ l, (digs (R + 2 ^ j)).length = l := ⟨_, rfl⟩
      have SM : Hid (Sl W2 r2 lM c2 (digs (R + 2 ^ j))) := by rw [← hlM]; exact A2.sl
      have HB2 := hid (HB1.out.trans (A2.below.mono HB1.out.size))
      rw [hlM] at hMl ⊢
      have HLM := hid hlM
      clear A2 hlM HAD
      have ML := rmul_c W2 r2 r2 lM c2 lM c2 (digs (R + 2 ^ j)) (digs (R + 2 ^ j)) SM.out SM.out (by omega)
      rw [val_digs] at ML
      have HML := hid ML
      clear ML
      go_wp2_with fail
      refine HML.out.mono ?_
      rintro e W3 ⟨r3, c3, rfl, A3⟩
      have CM := rcmp_c W3 r3 p _ c3 n c _ xs A3.sl ((HX.out.below HR.out.2.1).below (HB2.out.trans (A3.below.mono HB2.out.size)))
      rw [val_digs] at CM
      have HCM := hid CM
      have HB3 := hid (HB2.out.trans (A3.below.mono HB2.out.size))
      have SM3 := hid (SM.out.below A3.below)
      clear CM A3 HML
      rcases Nat.lt_or_ge (val xs) ((R + 2 ^ j) * (R + 2 ^ j)) with hgt | hle
      · have hcm : cmpN ((R + 2 ^ j) * (R + 2 ^ j)) (val xs) = 1 := by
          unfold cmpN
          rw [if_neg (by omega), if_neg (by omega)]
        rw [hcm] at HCM
        have HGT := hid hgt
        clear hcm hgt
        go_wp2_with fail
        refine HCM.out.mono ?_
        rintro e W4 ⟨rfl, rfl⟩
        go_wp2_with fail
        go_roundg j
        case measure => omega
        case rel => exact ⟨j, R, (j : Int) - 1, r, cr, Nat.le_refl _, by omega, rfl, rfl, by rw [HLR.out], by rw [HLR.out]; exact SR.out.below HB3.out, HR.out.2.1.trans (HB3.out.mono HR.out.2.1.size), rb_no HR.out.2.2 HGT.out⟩
      · have hcm : cmpN ((R + 2 ^ j) * (R + 2 ^ j)) (val xs) ≤ 0 := by
          unfold cmpN
          split
          · omega
          · rw [if_pos (by omega)]; omega
        obtain ⟨cv, hcv⟩ : ∃ cv, cmpN ((R + 2 ^ j) * (R + 2 ^ j)) (val xs) = cv := ⟨_, rfl⟩
        rw [hcv] at HCM hcm
        have HLE := hid hle
        clear hcv hle
        go_wp2_with fail
        refine HCM.out.mono ?_
        rintro e W4 ⟨rfl, rfl⟩
        go_wp2_with fail
        go_roundg j
        case measure => omega
        case rel => exact ⟨j, R + 2 ^ j, (j : Int) - 1, r2, c2, Nat.le_refl _, by omega, rfl, rfl, by rw [HLM.out], by rw [HLM.out]; exact SM3.out, HR.out.2.1.trans (HB3.out.mono HR.out.2.1.size), rb_yes HR.out.2.2 HLE.out⟩
end Go.Proofs.YtcngoobdknifdaaDoor
