/-
  Down and Up, the program's and the document's; low, high, equal.
-/
import Derived.Test.YtgalppimdmjdcaaGreatFLeaf2
namespace Go.Proofs.YtgalppimdmjdcaaGreat
open Go.RowKit Nt
set_option linter.unusedSimpArgs false
set_option linter.unusedVariables false
set_option maxRecDepth 20000

/-- The place below, the place above. -/
def dnP : Option Int → Option Int
  | some p => some (if p = -9218868437227405312 then p else p - 1)
  | none => none
def upP : Option Int → Option Int
  | some p => some (if p = 9218868437227405312 then p else p + 1)
  | none => none
theorem isnan_t {b : Nat} (h : plc b = none) : Pur 33 #[.float .f64 b] (.bool true) := by have := isnan_p b; rwa [h] at this
theorem isnan_f {b : Nat} {p : Int} (h : plc b = some p) : Pur 33 #[.float .f64 b] (.bool false) := by have := isnan_p b; rwa [h] at this

theorem down_f (b : Nat) (hb : b < 18446744073709551616) : PurF 11 #[.float .f64 b] (dnP (plc b)) := by
  cases hp : plc b with
  | none =>
    refine ⟨9221120237041090561, by decide, rfl, fun w => ?_⟩
    have N1 := isnan_t hp
    have N2 := nan_p
    go_enter Tryz.func11, Tryz.ntmps11
    go_wp2_with (first | (go_at_call 33; refine (N1 _).mono ?_; rintro e w' ⟨rfl, rfl⟩) | (go_at_call 46; refine (N2 _).mono ?_; rintro e w' ⟨rfl, rfl⟩))
    go_ret
    exact ⟨rfl, rfl⟩
  | some p =>
    obtain ⟨h1, h2, h3⟩ := plc_pl hb hp
    have N1 := isnan_f hp
    have N2 := isinf_m b hb p hp
    by_cases h : p = -9218868437227405312
    · rw [decide_eq_true h] at N2
      refine ⟨b, hb, by rw [hp]; simp only [dnP]; rw [if_pos h], fun w => ?_⟩
      clear h h1 h2 h3 hp
      go_enter Tryz.func11, Tryz.ntmps11
      go_wp2_with (first | (go_at_call 33; refine (N1 _).mono ?_; rintro e w' ⟨rfl, rfl⟩) | (go_at_call 34; refine (N2 _).mono ?_; rintro e w' ⟨rfl, rfl⟩))
      go_ret
      exact ⟨rfl, rfl⟩
    · rw [decide_eq_false h] at N2
      have hs := plc_st (n := p - 1) (by omega) (by omega)
      refine ⟨st (p - 1), hs.2, by rw [hs.1]; simp only [dnP]; rw [if_neg h], fun w => ?_⟩
      have P1 := place_p b hb
      rw [h1] at P1
      have P2 := standing_p (p - 1) (by omega) (by omega)
      clear h1 hs hp
      go_enter Tryz.func11, Tryz.ntmps11
      go_wp2_with (first | (go_at_call 33; refine (N1 _).mono ?_; rintro e w' ⟨rfl, rfl⟩) | (go_at_call 34; refine (N2 _).mono ?_; rintro e w' ⟨rfl, rfl⟩) | (go_at_call 48; refine (P1 _).mono ?_; rintro e w' ⟨rfl, rfl⟩) | (go_at_call 47; refine (P2 _).mono ?_; rintro e w' ⟨rfl, rfl⟩))
      go_ret
      exact ⟨rfl, rfl⟩
theorem up_f (b : Nat) (hb : b < 18446744073709551616) : PurF 13 #[.float .f64 b] (upP (plc b)) := by
  cases hp : plc b with
  | none =>
    refine ⟨9221120237041090561, by decide, rfl, fun w => ?_⟩
    have N1 := isnan_t hp
    have N2 := nan_p
    go_enter Tryz.func13, Tryz.ntmps13
    go_wp2_with (first | (go_at_call 33; refine (N1 _).mono ?_; rintro e w' ⟨rfl, rfl⟩) | (go_at_call 46; refine (N2 _).mono ?_; rintro e w' ⟨rfl, rfl⟩))
    go_ret
    exact ⟨rfl, rfl⟩
  | some p =>
    obtain ⟨h1, h2, h3⟩ := plc_pl hb hp
    have N1 := isnan_f hp
    have N2 := isinf_u b hb p hp
    by_cases h : p = 9218868437227405312
    · rw [decide_eq_true h] at N2
      refine ⟨b, hb, by rw [hp]; simp only [upP]; rw [if_pos h], fun w => ?_⟩
      clear h h1 h2 h3 hp
      go_enter Tryz.func13, Tryz.ntmps13
      go_wp2_with (first | (go_at_call 33; refine (N1 _).mono ?_; rintro e w' ⟨rfl, rfl⟩) | (go_at_call 34; refine (N2 _).mono ?_; rintro e w' ⟨rfl, rfl⟩))
      go_ret
      exact ⟨rfl, rfl⟩
    · rw [decide_eq_false h] at N2
      have hs := plc_st (n := p + 1) (by omega) (by omega)
      refine ⟨st (p + 1), hs.2, by rw [hs.1]; simp only [upP]; rw [if_neg h], fun w => ?_⟩
      have P1 := place_p b hb
      rw [h1] at P1
      have P2 := standing_p (p + 1) (by omega) (by omega)
      clear h1 hs hp
      go_enter Tryz.func13, Tryz.ntmps13
      go_wp2_with (first | (go_at_call 33; refine (N1 _).mono ?_; rintro e w' ⟨rfl, rfl⟩) | (go_at_call 34; refine (N2 _).mono ?_; rintro e w' ⟨rfl, rfl⟩) | (go_at_call 48; refine (P1 _).mono ?_; rintro e w' ⟨rfl, rfl⟩) | (go_at_call 47; refine (P2 _).mono ?_; rintro e w' ⟨rfl, rfl⟩))
      go_ret
      exact ⟨rfl, rfl⟩

/-! The document's. -/
theorem rbits_p (b : Nat) : Pur 41 #[.float .f64 b] (.int .u64 (b : Int)) := by
  intro w
  have F := fun W => run_bits b W
  go_enter Tryz.func41, Tryz.ntmps41
  go_wp2
  go_ret
  exact ⟨rfl, rfl⟩
theorem rof_p (n : Int) : Pur 49 #[.int .u64 n] (.float .f64 n.toNat) := by
  intro w
  have F := fun n W => run_frombits n W
  go_enter Tryz.func49, Tryz.ntmps49
  go_wp2
  go_ret
  exact ⟨rfl, rfl⟩
/-- The float above, by its bits. -/
def upB (b : Nat) : Nat := if (plc b).isNone = true ∨ b = 9218868437227405312 then b else if b = 0 ∨ b = 9223372036854775808 then 1 else if b < 9223372036854775808 then b + 1 else b - 1
theorem plc_upB (b : Nat) (hb : b < 18446744073709551616) : upB b < 18446744073709551616 ∧ plc (upB b) = upP (plc b) := by
  unfold upB
  cases hp : plc b with
  | none =>
    rw [if_pos (Or.inl (by rfl : (none : Option Int).isNone = true))]
    exact ⟨hb, hp⟩
  | some p =>
    obtain ⟨h1, h2, h3⟩ := plc_pl hb hp
    unfold pl at h1
    simp only [upP]
    by_cases e : b = 9218868437227405312
    · rw [if_pos (Or.inr e)]
      refine ⟨hb, ?_⟩
      rw [hp]
      have : p = 9218868437227405312 := by
        subst e
        rw [if_neg (by decide)] at h1
        exact h1.symm
      rw [if_pos this]
    · rw [if_neg (by simp [e])]
      by_cases e0 : b = 0 ∨ b = 9223372036854775808
      · rw [if_pos e0]
        refine ⟨by decide, ?_⟩
        have : p = 0 := by
          rcases e0 with rfl | rfl
          · rw [if_neg (by decide)] at h1; exact h1.symm
          · rw [if_pos (by decide)] at h1; exact h1.symm
        subst this
        rfl
      · rw [if_neg e0]
        by_cases hl : b < 9223372036854775808
        · rw [if_pos hl]
          rw [if_neg (by omega)] at h1
          refine ⟨by omega, ?_⟩
          rw [if_neg (by omega)]
          unfold plc
          rw [if_pos (by omega), if_neg (by omega)]
          exact congrArg some (by omega)
        · rw [if_neg hl]
          rw [if_pos (by omega)] at h1
          refine ⟨by omega, ?_⟩
          rw [if_neg (by omega)]
          unfold plc
          rw [if_pos (by omega), if_pos (by omega)]
          exact congrArg some (by omega)
theorem rup_p (b : Nat) (hb : b < 18446744073709551616) : Pur 14 #[.float .f64 b] (.float .f64 (upB b)) := by
  intro w
  have B1 := rbits_p b
  have O := fun n => rof_p n
  have ho := nan_neq b
  unfold upB
  cases hp : plc b with
  | none =>
    rw [if_pos (Or.inl (by rfl : (none : Option Int).isNone = true))]
    rw [hp] at ho
    simp only [Option.isNone_none] at ho
    go_enter Tryz.func14, Tryz.ntmps14
    go_wp2_with (go_at_call 41; refine (B1 _).mono ?_; rintro e w' ⟨rfl, rfl⟩)
    go_ret
    exact ⟨rfl, rfl⟩
  | some p =>
    rw [hp] at ho
    simp only [Option.isNone_some] at ho
    clear hp
    by_cases e : b = 9218868437227405312
    · rw [if_pos (Or.inr e)]
      subst e
      go_enter Tryz.func14, Tryz.ntmps14
      go_wp2_with (go_at_call 41; refine (B1 _).mono ?_; rintro e w' ⟨rfl, rfl⟩)
      go_ret
      exact ⟨rfl, rfl⟩
    · rw [if_neg (by simp [e])]
      have e' : ((b : Int) == 9218868437227405312) = false := by simp; omega
      by_cases e0 : b = 0 ∨ b = 9223372036854775808
      · rw [if_pos e0]
        rcases e0 with rfl | rfl
        · go_enter Tryz.func14, Tryz.ntmps14
          go_wp2_with (first | (go_at_call 41; refine (B1 _).mono ?_; rintro e w' ⟨rfl, rfl⟩) | (go_at_call 49; refine (O _ _).mono ?_; rintro e w' ⟨rfl, rfl⟩))
          go_ret
          exact ⟨rfl, rfl⟩
        · go_enter Tryz.func14, Tryz.ntmps14
          go_wp2_with (first | (go_at_call 41; refine (B1 _).mono ?_; rintro e w' ⟨rfl, rfl⟩) | (go_at_call 49; refine (O _ _).mono ?_; rintro e w' ⟨rfl, rfl⟩))
          go_ret
          exact ⟨rfl, rfl⟩
      · rw [if_neg e0]
        have e1 : ((b : Int) == 0) = false := by simp; omega
        have e2 : ((b : Int) == 9223372036854775808) = false := by simp; omega
        by_cases hl : b < 9223372036854775808
        · rw [if_pos hl]
          have e3 : ((b : Int) < 9223372036854775808) = True := by simp; omega
          have h7 : ((b : Int) + 1) % 18446744073709551616 = (b : Int) + 1 := by omega
          have e9 : ((b : Int) + 1).toNat = b + 1 := by omega
          clear e0 e hl hb
          go_enter Tryz.func14, Tryz.ntmps14
          go_wp2_with (first | (go_at_call 41; refine (B1 _).mono ?_; rintro e w' ⟨rfl, rfl⟩) | (go_at_call 49; refine (O _ _).mono ?_; rintro e w' ⟨rfl, rfl⟩))
          go_ret
          exact ⟨rfl, rfl⟩
        · rw [if_neg hl]
          have e3 : ((b : Int) < 9223372036854775808) = False := by simp; omega
          have e9 : ((b : Int) - 1).toNat = b - 1 := by omega
          have h7 : ((b : Int) - 1) % 18446744073709551616 = (b : Int) - 1 := by omega
          clear e0 e hl hb
          go_enter Tryz.func14, Tryz.ntmps14
          go_wp2_with (first | (go_at_call 41; refine (B1 _).mono ?_; rintro e w' ⟨rfl, rfl⟩) | (go_at_call 49; refine (O _ _).mono ?_; rintro e w' ⟨rfl, rfl⟩))
          go_ret
          exact ⟨rfl, rfl⟩
end Go.Proofs.YtgalppimdmjdcaaGreat
