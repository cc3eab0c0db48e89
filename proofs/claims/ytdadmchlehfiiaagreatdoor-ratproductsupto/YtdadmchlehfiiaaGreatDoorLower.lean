/-
  nat.lower: on in the row of rests, by many places or by one.
-/
import Derived.Test.YtdadmchlehfiiaaGreatDoorRests
import Derived.Test.YtdadmchlehfiiaaGreatDoorSetB
namespace Go.Proofs.YtdadmchlehfiiaaGreatDoor
open Go.RowKit Nt
set_option linter.unusedSimpArgs false
set_option linter.unusedVariables false
set_option maxRecDepth 20000

/-- Two numbers further down the row. -/
def Dn (w w' : World) (A B : Nat) (r r' : Option Addr) (k k' A' B' : Nat) : Prop :=
  Sl w' r (digs A').length k (digs A') ∧ Sl w' r' (digs B').length k' (digs B') ∧ Below w.heap.size w w' ∧ B' < A' ∧ A' ≤ B ∧ Nat.gcd A' B' = Nat.gcd A B

set_option maxHeartbeats 2000000 in
theorem lower_c (w : World) (pa pb : Option Addr) (c d A B n m : Nat) (en : (digs A).length = n) (em : (digs B).length = m) (h : Sl w pa n c (digs A)) (h' : Sl w pb m d (digs B)) (hm : 3 ≤ m) (hBA : B ≤ A) (hs : n + 1 ≤ 70368744177664) :
    Calls Tryz.prog 62 #[.slice pa n c, .slice pb m d] w fun e w' => ∃ (A' B' : Nat) (r r' : Option Addr) (k k' : Nat), e = .returned (.tuple #[.slice r (digs A').length k, .slice r' (digs B').length k']) ∧ Dn w w' A B r r' k k' A' B' := by
  have hmn : m ≤ n := by rw [← en, ← em]; exact digs_length_mono hBA
  have hB0 : B ≠ 0 := by
    intro e
    rw [e, digs_zero] at em
    simp at em
    omega
  have htop : (digs A).getD (n - 1) 0 ≠ 0 := by
    rw [← en]
    exact (top_digs A).resolve_left (by intro e; rw [e] at en; simp at en; omega)
  have LK := hid (fun (W : World) (hW : Below w.heap.size w W) => look_c W pa pb n c m d (digs A) (digs B) (h.below hW) (h'.below hW) (by omega) (by omega) htop hmn (by rw [val_digs, val_digs]; exact hBA))
  have RS := hid (fun (W : World) (hW : Below w.heap.size w W) U0 V0 U1 V1 odd a b c' d' hg => rests_c W pa pb n c m d (digs A) (digs B) U0 V0 U1 V1 odd (h.below hW) (h'.below hW) (by omega) hmn a b c' d' hg)
  have DV := hid (fun (W : World) (hW : Below w.heap.size w W) => div_c W pa pb n c m d (digs A) (digs B) (h.below hW) (h'.below hW) (by rw [val_digs]; exact hB0) hs)
  rw [val_digs, val_digs] at LK RS DV
  have HX := hid h
  have HY := hid h'
  have HEN := hid en
  have HEM := hid em
  have HB0 := hid hB0
  clear h h' htop en em hB0
  go_enter Tryz.func62, Tryz.ntmps62
  go_wp2_with fail
  refine (LK.out _ (Below.refl _ _)).mono ?_
  rintro e w1 ⟨U0, V0, U1, V1, odd, rfl, ⟨s1, s2, s3, s4⟩, hgood, hb⟩
  have HB := hid hb
  have HGOOD := hid hgood
  clear hb hgood LK
  by_cases hV : V0 = 0
  · subst hV
    go_wp2_with fail
    refine (DV.out _ (HB.out.alloc HB.out.size _)).mono ?_
    rintro e w2 ⟨r, cr, s, cs, rfl, R1, R2, T2⟩
    have HR2 := hid R2
    clear R1 R2 T2
    go_wp2_with fail
    go_ret2
    have hB1 := (HB.out.alloc HB.out.size (.cells #[.int .u64 U0, .int .u64 0, .int .u64 U1, .int .u64 V1, .bool odd] 90)).trans (HR2.out.below.mono (Nat.le_trans HB.out.size (by simp)))
    refine ⟨B, A % B, pb, s, d, cs, by rw [HEM.out]; rfl, ?_, HR2.out.sl, hB1, Nat.mod_lt _ (Nat.pos_of_ne_zero HB0.out), Nat.le_refl _, ?_⟩
    · rw [HEM.out]; exact HY.out.below hB1
    · rw [Nat.gcd_comm, ← Nat.gcd_rec, Nat.gcd_comm]
  · have hbo : (!decide (V0 = 0)) = true := by simp [hV]
    have HV := hid hV
    clear hV
    rw [hbo]
    go_wp2_with fail
    refine (RS.out _ (HB.out.alloc HB.out.size _) U0 V0 U1 V1 odd s1 s2 s3 s4 (HGOOD.out HV.out)).mono ?_
    rintro e w2 ⟨a', b', r, r', k, k', rfl, k1, k2, k3, k4, k5, k6⟩
    have K1 := hid k1
    have K2 := hid k2
    have K3 := hid k3
    have K6 := hid k6
    clear k1 k2 k3 k6
    go_wp2_with fail
    go_ret2
    have hB1 := (HB.out.alloc HB.out.size (.cells #[.int .u64 U0, .int .u64 V0, .int .u64 U1, .int .u64 V1, .bool odd] 90)).trans (K3.out.mono (Nat.le_trans HB.out.size (by simp)))
    exact ⟨a', b', r, r', k, k', rfl, K1.out, K2.out, hB1, k4, k5, K6.out⟩
end Go.Proofs.YtdadmchlehfiiaaGreatDoor
