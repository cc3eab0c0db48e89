/-
  The document's Down, low and high; the law's equal.
-/
import Derived.Test.YtgalppimdmjdcaaGreatFLeaf3
namespace Go.Proofs.YtgalppimdmjdcaaGreat
open Go.RowKit Nt
set_option linter.unusedSimpArgs false
set_option linter.unusedVariables false
set_option maxRecDepth 20000

theorem rup_f (b : Nat) (hb : b < 18446744073709551616) : PurF 14 #[.float .f64 b] (upP (plc b)) := ⟨_, (plc_upB b hb).1, (plc_upB b hb).2, rup_p b hb⟩
theorem dn_up (p : Option Int) : ngP (upP (ngP p)) = dnP p := by
  cases p with
  | none => rfl
  | some p =>
    simp only [ngP, upP, dnP]
    refine congrArg some ?_
    by_cases h : p = -9218868437227405312
    · rw [if_pos h, if_pos (by omega)]; omega
    · rw [if_neg h, if_neg (by omega)]; omega
theorem rdown_f (b : Nat) (hb : b < 18446744073709551616) : PurF 12 #[.float .f64 b] (dnP (plc b)) := by
  obtain ⟨c, hc⟩ : ∃ c, (b + 9223372036854775808) % 18446744073709551616 = c := ⟨_, rfl⟩
  have hc1 : c < 18446744073709551616 := by omega
  have e3 := plc_neg b hb
  have e2 := neg_f64 b hb
  rw [hc] at e2 e3
  obtain ⟨r, hr1, hr2, hr3⟩ := rup_f c hc1
  have e4 := plc_neg r hr1
  have e5 := neg_f64 r hr1
  refine ⟨_, Nat.mod_lt _ (by decide), by rw [e4, hr2, e3, dn_up], fun w => ?_⟩
  have Ng := fun b W => run_neg b W
  obtain ⟨d, hd⟩ : ∃ d, (r + 9223372036854775808) % 18446744073709551616 = d := ⟨_, rfl⟩
  rw [hd] at e5 ⊢
  clear hc e3 e4 hr2 hd
  go_enter Tryz.func12, Tryz.ntmps12
  go_wp2_with (go_at_call 14; refine (hr3 _).mono ?_; rintro e w' ⟨rfl, rfl⟩)
  go_ret
  exact ⟨rfl, rfl⟩
/-- An end that is a NaN is as far as can be. -/
def loP : Option Int → Option Int
  | some p => dnP (some p)
  | none => some (-9218868437227405312)
def hiP : Option Int → Option Int
  | some p => upP (some p)
  | none => some 9218868437227405312
theorem low_f (b : Nat) (hb : b < 18446744073709551616) : PurF 54 #[.float .f64 b] (loP (plc b)) := by
  have O := fun n => rof_p n
  have ho := nan_neq b
  cases hp : plc b with
  | none =>
    refine ⟨18442240474082181120, by decide, rfl, fun w => ?_⟩
    rw [hp] at ho
    simp only [Option.isNone_none] at ho
    go_enter Tryz.func54, Tryz.ntmps54
    go_wp2_with (go_at_call 49; refine (O _ _).mono ?_; rintro e w' ⟨rfl, rfl⟩)
    go_ret
    exact ⟨rfl, rfl⟩
  | some p =>
    rw [hp] at ho
    simp only [Option.isNone_some] at ho
    obtain ⟨r, h1, h2, h3⟩ := rdown_f b hb
    refine ⟨r, h1, by rw [h2, hp]; rfl, fun w => ?_⟩
    clear h2 hp
    go_enter Tryz.func54, Tryz.ntmps54
    go_wp2_with (go_at_call 12; refine (h3 _).mono ?_; rintro e w' ⟨rfl, rfl⟩)
    go_ret
    exact ⟨rfl, rfl⟩
theorem high_f (b : Nat) (hb : b < 18446744073709551616) : PurF 55 #[.float .f64 b] (hiP (plc b)) := by
  have O := fun n => rof_p n
  have ho := nan_neq b
  cases hp : plc b with
  | none =>
    refine ⟨9218868437227405312, by decide, rfl, fun w => ?_⟩
    rw [hp] at ho
    simp only [Option.isNone_none] at ho
    go_enter Tryz.func55, Tryz.ntmps55
    go_wp2_with (go_at_call 49; refine (O _ _).mono ?_; rintro e w' ⟨rfl, rfl⟩)
    go_ret
    exact ⟨rfl, rfl⟩
  | some p =>
    rw [hp] at ho
    simp only [Option.isNone_some] at ho
    obtain ⟨r, h1, h2, h3⟩ := rup_f b hb
    refine ⟨r, h1, by rw [h2, hp]; rfl, fun w => ?_⟩
    clear h2 hp
    go_enter Tryz.func55, Tryz.ntmps55
    go_wp2_with (go_at_call 14; refine (h3 _).mono ?_; rintro e w' ⟨rfl, rfl⟩)
    go_ret
    exact ⟨rfl, rfl⟩
theorem equal_t (a b : Nat) (h : plc a = plc b) : Pur 10 #[.float .f64 a, .float .f64 b] (.bool true) := by
  intro w
  have h1 := nan_neq a
  have h2 := nan_neq b
  have h3 : (FloatKind.f64.format.order a b == some Ordering.eq) = !(plc a).isNone := by
    rw [fo_plc, h]
    cases plc b with
    | none => rfl
    | some p => simp only [ordP]; rw [cmp_eq]; simp
  rw [← h] at h2
  cases hp : plc a with
  | none =>
    rw [hp] at h1 h2 h3
    simp only [Option.isNone_none, Bool.not_true] at h1 h2 h3
    clear hp h
    go_enter Tryz.func10, Tryz.ntmps10
    go_wp2
    go_ret
    exact ⟨rfl, rfl⟩
  | some p =>
    rw [hp] at h1 h2 h3
    simp only [Option.isNone_some, Bool.not_false] at h1 h2 h3
    clear hp h
    go_enter Tryz.func10, Tryz.ntmps10
    go_wp2
    go_ret
    exact ⟨rfl, rfl⟩
end Go.Proofs.YtgalppimdmjdcaaGreat
