import Derived.Test.YtgalppimdmjdcabGreatDoorIfF
import Derived.Test.YtgalppimdmjdcabGreatDoorIRExact
import Derived.Test.YtgalppimdmjdcabGreatDoorFlC
/-
  The rational that a float is: the program's way and the document's come to one.
-/
namespace Go.Proofs.YtgalppimdmjdcabGreatDoor
open Go Go.RowKit Nt
set_option linter.unusedSimpArgs false
set_option linter.unusedVariables false
set_option maxRecDepth 20000

/-- The rational at a place. -/
def EX (p : Int) : Nat → Pr := RN (nR (vp p) uF) (dR (vp p) uF)
theorem uF_ne : uF ≠ 0 := Nat.pos_iff_ne_zero.1 uF_pos
theorem ex_of {p P : Int} {Y : Nat} (hY : Y ≠ 0) (h : P * (uF : Int) = vp p * (Y : Int)) : RN (nR P Y) (dR P Y) = EX p := low_num hY uF_ne h
theorem rn_1 (A : Int) : RN A 1 = RN (nR A 1) (dR A 1) := by
  have h1 : nR A 1 = A := by unfold nR; rw [Nat.gcd_one_right, Nat.div_one]; exact sg_sign A
  have h2 : dR A 1 = 1 := by unfold dR; rw [Nat.gcd_one_right]
  rw [h1, h2]
theorem ex_1 {p A : Int} (h : A * (uF : Int) = vp p) : RN A 1 = EX p := by rw [rn_1]; exact ex_of (by decide) (by rw [h]; simp)
theorem sgm (b : Bool) (m n : Nat) : sg b m * (n : Int) = sg b (m * n) := by cases b <;> simp [sg, Int.neg_mul]
/-- The number of a float by its fields. -/
theorem vp_fw0 (s f : Nat) (hf : f < 4503599627370496) : vp (if s = 1 then -((0 * 4503599627370496 + f : Nat) : Int) else ((0 * 4503599627370496 + f : Nat) : Int)) = sg (decide (s = 1)) f := by
  have := vp_of (s := decide (s = 1)) (r := f) (m := f) (by unfold mg; rw [if_pos hf])
  rw [Nat.zero_mul, Nat.zero_add]
  by_cases h : s = 1
  · rw [if_pos h]; simp [h] at this ⊢; rw [← this]; simp [sg]
  · rw [if_neg h]; simp [h] at this ⊢; rw [← this]; simp [sg]
theorem vp_fwn (s E f : Nat) (hf : f < 4503599627370496) (hE : 1 ≤ E) : vp (if s = 1 then -((E * 4503599627370496 + f : Nat) : Int) else ((E * 4503599627370496 + f : Nat) : Int)) = sg (decide (s = 1)) ((f + 4503599627370496) * 2 ^ (E - 1)) := by
  have hm : (f + 4503599627370496) * 2 ^ (E - 1) = mg (E * 4503599627370496 + f) := by
    rw [show E * 4503599627370496 + f = (E - 1) * 4503599627370496 + (f + 4503599627370496) from by omega]
    exact (mg_form (by omega) (Or.inr (by omega))).symm
  have := vp_of (s := decide (s = 1)) (r := E * 4503599627370496 + f) hm
  by_cases h : s = 1
  · rw [if_pos h]; simp only [h, decide_true, if_true] at this ⊢; rw [← this]; simp [sg]
  · rw [if_neg h]; simp only [h, decide_false, Bool.false_eq_true, if_false] at this ⊢; rw [← this]; simp [sg]
theorem pw_len {t N : Nat} (h : t ≤ N) : (digs (2 ^ t)).length ≤ N + 1 := digs_length_le (by
  have h1 : 2 ^ t ≤ 2 ^ N := Nat.pow_le_pow_right (by decide) h
  have h2 : 2 ^ N < 2 ^ (32 * (N + 1)) := Nat.pow_lt_pow_right (by decide) (by omega)
  rw [show (4294967296 : Nat) = 2 ^ 32 from rfl, ← Nat.pow_mul]
  omega)
theorem pw2_eq (n : Nat) : 2 ^ n = pw2 n := rfl
theorem pw_uF {a : Nat} (h : a = 1074) : 2 ^ a = uF := by rw [pw2_eq, h]; rfl
theorem k_len {K : Int} (h : K.natAbs ≤ 9007199254740992) : (digs K.natAbs).length ≤ 2 := digs_length_le (by
  have : (4294967296 : Nat) ^ 2 = 18446744073709551616 := by decide
  omega)
theorem exact_fin (w : World) (b : Nat) (hb : b < 18446744073709551616) (p : Int) (hp : plc b = some p) (hq : Fin p) : Calls Tryz.prog 6 #[.float .f64 b] w (Gives (TWO (EX p) (IS (.bool true))) w) := by
  have hq' : ¬ (p = 9218868437227405312 ∨ p = -9218868437227405312) := by unfold Fin at hq; omega
  obtain ⟨s, E, f, rfl, hs, hE, hf⟩ := fw_of b hb
  have hE2 : E < 2047 := by
    apply Classical.byContradiction
    intro hc
    have : E = 2047 := by omega
    subst this
    have h1 : fw s 2047 f % 9223372036854775808 = 9218868437227405312 + f := by unfold fw; omega
    unfold plc at hp
    rw [h1] at hp
    split at hp
    · have := Option.some.inj hp; split at this <;> omega
    · cases hp
  have hpe := plc_fw s E f hs hE2 hf
  rw [hp] at hpe
  have hpe := Option.some.inj hpe
  by_cases h0 : E = 0
  · subst h0
    have hv := vp_fw0 s f hf
    rw [← hpe] at hv
    by_cases hf0 : f = 0
    · subst hf0
      have hF := Frexp_p (frexp_0 s hs) rfl
      have hL := Ldexp_p (ldexp_0 s hs)
      have hz := toInt_0 s hs
      have := exact_lt w _ _ _ hb p hp hq' 0 0 hF hL hz (by decide) (by decide) (k_len (by decide)) (by decide) (by decide) 9007199254740992 (by decide) (by decide) (by decide) (Nat.le_trans (digs_length_le (k := 2) (by decide)) (by decide))
      rw [ex_of (by decide) (by rw [hv]; simp [sg])] at this
      exact this
    · obtain ⟨L, k, hL1, hk, hfk, hr⟩ := mul_52 s f hs hf (by omega)
      have hF := Frexp_p (frexp_s s f hs hf (by omega) L k hL1 hk hr) rfl
      have hL := Ldexp_p (ldexp_n s k hs hk)
      have hz := toInt_of (dec_n s k hs hk) (by omega)
      have eK : (if (s == 1) = true then -((4503599627370496 + k : Nat) : Int) else ((4503599627370496 + k : Nat) : Int)) = sg (decide (s = 1)) (4503599627370496 + k) := by
        rcases (by omega : s = 0 ∨ s = 1) with rfl | rfl <;> rfl
      rw [eK] at hz
      have hKa : (sg (decide (s = 1)) (4503599627370496 + k)).natAbs = 4503599627370496 + k := sg_abs _ _
      have := exact_lt w _ _ _ hb p hp hq' ((L : Int) - 1073) (sg (decide (s = 1)) (4503599627370496 + k)) hF hL hz (by omega) (by omega) (k_len (by omega)) (by omega) (by omega) (2 ^ (1126 - L)) (Nat.pos_iff_ne_zero.1 (Nat.two_pow_pos _)) (by omega) (by
        rw [show (53 - ((L : Int) - 1073)).toNat = 1126 - L from by omega]; simp) (Nat.le_trans (pw_len (N := 1126) (by omega)) (by decide))
      rw [ex_of (Nat.pos_iff_ne_zero.1 (Nat.two_pow_pos _)) (by
        rw [hv, sgm, sgm, ← hfk]
        congr 1
        rw [Nat.mul_assoc, pow_uF]
        congr 2
        omega)] at this
      exact this
  · have hv := vp_fwn s E f hf (by omega)
    rw [← hpe] at hv
    have hF := Frexp_p (frexp_n s E f hs hE2 (by omega) hf) rfl
    have hL := Ldexp_p (ldexp_n s f hs hf)
    have hz := toInt_of (dec_n s f hs hf) (by omega)
    have eK : (if (s == 1) = true then -((4503599627370496 + f : Nat) : Int) else ((4503599627370496 + f : Nat) : Int)) = sg (decide (s = 1)) (4503599627370496 + f) := by
      rcases (by omega : s = 0 ∨ s = 1) with rfl | rfl <;> rfl
    rw [eK] at hz
    have hKa : (sg (decide (s = 1)) (4503599627370496 + f)).natAbs = 4503599627370496 + f := sg_abs _ _
    by_cases hn : (E : Int) - 1022 < 53
    · have := exact_lt w _ _ _ hb p hp hq' ((E : Int) - 1022) (sg (decide (s = 1)) (4503599627370496 + f)) hF hL hz (by omega) (by omega) (k_len (by omega)) (by omega) (by omega) (2 ^ (1075 - E)) (Nat.pos_iff_ne_zero.1 (Nat.two_pow_pos _)) hn (by
        rw [show (53 - ((E : Int) - 1022)).toNat = 1075 - E from by omega]; simp) (Nat.le_trans (pw_len (N := 1126) (by omega)) (by decide))
      rw [ex_of (Nat.pos_iff_ne_zero.1 (Nat.two_pow_pos _)) (by
        rw [hv, sgm, sgm]
        congr 1
        rw [Nat.mul_assoc, ← Nat.pow_add, pw_uF (show E - 1 + (1075 - E) = 1074 by omega), Nat.add_comm])] at this
      exact this
    · have e5 : sg (decide (s = 1)) (4503599627370496 + f) * 2 ^ ((E : Int) - 1022 - 53).toNat = sg (decide (s = 1)) ((4503599627370496 + f) * 2 ^ (E - 1075)) := by
        rw [show ((E : Int) - 1022 - 53).toNat = E - 1075 from by omega, ← sgm]
        simp
      have hl : (digs (sg (decide (s = 1)) (4503599627370496 + f) * 2 ^ ((E : Int) - 1022 - 53).toNat).natAbs).length ≤ 67108864 := by
        refine Nat.le_trans (dl_mul (k := 2) (l := 1001) (k_len (by omega)) ?_) (by decide)
        rw [Int.natAbs_pow]
        exact pw_len (N := 1000) (by omega)
      have := exact_ge w _ _ _ hb p hp hq' ((E : Int) - 1022) (sg (decide (s = 1)) (4503599627370496 + f)) hF hL hz (by omega) (by omega) (k_len (by omega)) (by omega) (by omega) (by omega) hl
      rw [ex_of (by decide) (by
        rw [hv, e5, sgm]
        rw [show ((1 : Nat) : Int) = 1 from rfl, Int.mul_one]
        congr 1
        rw [Nat.mul_assoc, pow_uF, show E - 1075 + 1074 = E - 1 from by omega, Nat.add_comm])] at this
      exact this
theorem exact_not (w : World) (b : Nat) (hb : b < 18446744073709551616) (h : ∀ p, plc b = some p → ¬ Fin p) : Calls Tryz.prog 6 #[.float .f64 b] w (Gives (TWO (RN 0 1) (IS (.bool false))) w) := by
  cases hp : plc b with
  | none => exact exact_nan w b hb hp
  | some p =>
    rcases fin_or (plc_le hp) with h1 | h1
    · exact absurd h1 (h p hp)
    · exact exact_inf w b hb p hp h1
theorem rexact_fin (w : World) (b : Nat) (hb : b < 18446744073709551616) (p : Int) (hp : plc b = some p) (hq : Fin p) : Calls Tryz.prog 26 #[.float .f64 b] w (Gives (TWO (EX p) (IS (.bool true))) w) := by
  obtain ⟨s, E, f, rfl, hs, hE, hf⟩ := fw_of b hb
  have e1 : fw s E f % 9223372036854775808 = E * 4503599627370496 + f := by unfold fw; omega
  have e2 : (E * 4503599627370496 + f) / 4503599627370496 = E := by omega
  have e3 : (E * 4503599627370496 + f) % 4503599627370496 = f := by omega
  have hE2 : E < 2047 := by
    apply Classical.byContradiction
    intro hc
    have : E = 2047 := by omega
    subst this
    unfold plc at hp
    rw [e1] at hp
    split at hp
    · have := Option.some.inj hp; unfold Fin at hq; split at this <;> omega
    · cases hp
  have hpe := plc_fw s E f hs hE2 hf
  rw [hp] at hpe
  have hpe := Option.some.inj hpe
  have hsg : decide ((9223372036854775808 : Int) ≤ ((fw s E f : Nat) : Int)) = decide (s = 1) := decide_eq_decide.2 (by unfold fw; omega)
  by_cases h0 : E = 0
  · subst h0
    have hv := vp_fw0 s f hf
    rw [← hpe] at hv
    have := rexact_s w _ _ _ _ hb e1 e2 e3 _ hsg (by omega) rfl 1074 rfl
    rw [ex_of (Nat.pos_iff_ne_zero.1 (Nat.two_pow_pos 1074)) (by rw [hv]; rfl)] at this
    exact this
  · have hv := vp_fwn s E f hf (by omega)
    rw [← hpe] at hv
    by_cases hn : E < 1075
    · have := rexact_n w _ _ _ _ hb e1 e2 e3 _ hsg (by omega) (by omega) (1075 - E) (by omega) (by omega)
      rw [ex_of (Nat.pos_iff_ne_zero.1 (Nat.two_pow_pos _)) (by
        rw [hv, sgm, sgm]
        congr 1
        rw [Nat.mul_assoc, ← Nat.pow_add, pw_uF (show E - 1 + (1075 - E) = 1074 by omega)])] at this
      exact this
    · have hl : (digs ((f + 4503599627370496) * 2 ^ (E - 1075))).length ≤ 67108864 := by
        have := dl_mul (a := ((f + 4503599627370496 : Nat) : Int)) (b := ((2 ^ (E - 1075) : Nat) : Int)) (k := 2) (l := 1001) (k_len (by omega)) (pw_len (N := 1000) (by omega))
        rw [← Int.natCast_mul, Int.natAbs_natCast] at this
        omega
      have := rexact_g w _ _ _ _ hb e1 e2 e3 _ hsg (by omega) (by omega) (E - 1075) (by omega) hl
      rw [ex_1 (p := p) (by
        rw [hv, sgm]
        congr 1
        rw [Nat.mul_assoc, pow_uF, show E - 1075 + 1074 = E - 1 from by omega])] at this
      exact this
theorem rexact_not (w : World) (b : Nat) (hb : b < 18446744073709551616) (h : ∀ p, plc b = some p → ¬ Fin p) : Calls Tryz.prog 26 #[.float .f64 b] w (Gives (TWO (RN 0 1) (IS (.bool false))) w) := by
  refine rexact_inf w b _ _ _ hb rfl rfl rfl ?_
  apply Classical.byContradiction
  intro hc
  have : plc b = some (if b / 9223372036854775808 % 2 = 1 then -((b % 9223372036854775808 : Nat) : Int) else ((b % 9223372036854775808 : Nat) : Int)) := by unfold plc; rw [if_pos (by omega)]
  refine h _ this ?_
  unfold Fin
  split <;> omega
end Go.Proofs.YtgalppimdmjdcabGreatDoor

/-
  IvalSteps.
-/
namespace Go.Proofs.YtgalppimdmjdcabGreatDoor
open Go Go.RowKit Nt
set_option linter.unusedSimpArgs false
set_option linter.unusedVariables false
set_option maxRecDepth 20000

theorem kl_len {K L N : Nat} (hK : K ≤ 9007199254740992) (hL : L ≤ N) : (digs (K * 2 ^ L)).length ≤ 53 + N + 1 := by
  have h3 : K * 2 ^ L ≤ 2 ^ 53 * 2 ^ N := Nat.mul_le_mul hK (Nat.pow_le_pow_right (by decide) hL)
  rw [← Nat.pow_add] at h3
  exact Nat.le_trans (digs_length_mono h3) (pw_len (Nat.le_refl _))
theorem mg_len {r : Nat} (h : r < 9218868437227405312) : (digs (mg r)).length ≤ 2200 := by
  obtain ⟨L, K, e, h1, h2⟩ := mg_split r
  rw [e, mg_form (by omega) h2]
  exact Nat.le_trans (kl_len (N := 2047) (by omega) (by omega)) (by decide)
theorem pw2_len (n : Nat) : (digs (pw2 n)).length ≤ n + 1 := pw_len (Nat.le_refl n)
theorem vp_abs (p : Int) : (vp p).natAbs = mg p.natAbs := by unfold vp; split <;> omega
theorem exn_len {p : Int} (h : Fin p) : (digs (nR (vp p) uF).natAbs).length ≤ 2200 := nR_len (by rw [vp_abs]; exact mg_len (by unfold Fin at h; omega))
theorem exd_len (p : Int) : (digs (dR (vp p) uF)).length ≤ 2200 := dR_len (Nat.le_trans (pw2_len 1074) (by decide))
section
variable {ops : Array Oper} {l : List Kd} {bx : Bxs} {sl : List (Tmp × Pr)} {i : Nat} {o : Oper} {Q : Exit → Act → World → Prop} {a0 : Act} {n : Nat} {w0 : World}
end
end Go.Proofs.YtgalppimdmjdcabGreatDoor
