/-
  What intervals hold: sums, products, squares, orders, by places.
-/
import Derived.Test.YtgalppimdmjdcabGreatFOrd
namespace Go.Proofs.YtgalppimdmjdcabGreat
open Go Go.RowKit Nt
set_option linter.unusedSimpArgs false
set_option linter.unusedVariables false
set_option maxRecDepth 20000

/-- The float at a place is not above V by D; not below it. -/
def Lo (p V : Int) (D : Nat) : Prop := p ≤ -9218868437227405312 ∨ (p < 9218868437227405312 ∧ vp p * (D : Int) ≤ V * (uF : Int))
def Hi (p V : Int) (D : Nat) : Prop := 9218868437227405312 ≤ p ∨ (-9218868437227405312 < p ∧ V * (uF : Int) ≤ vp p * (D : Int))
theorem sign_le {x : Int} : x.sign ≤ 0 ↔ x ≤ 0 := by
  rcases Int.lt_trichotomy x 0 with h | h | h
  · rw [Int.sign_eq_neg_one_of_neg h]; omega
  · subst h; simp
  · rw [Int.sign_eq_one_of_pos h]; omega
theorem sign_ge {x : Int} : 0 ≤ x.sign ↔ 0 ≤ x := by
  rcases Int.lt_trichotomy x 0 with h | h | h
  · rw [Int.sign_eq_neg_one_of_neg h]; omega
  · subst h; simp
  · rw [Int.sign_eq_one_of_pos h]; omega
theorem ag_lo {p V : Int} {D : Nat} (hp : p.natAbs ≤ 9218868437227405312) : agP p V D ≤ 0 ↔ Lo p V D := by
  unfold agP Lo
  by_cases h : -9218868437227405312 < p ∧ p < 9218868437227405312
  · rw [if_pos h, sign_le]; omega
  · rw [if_neg h]
    by_cases h' : p < 0
    · rw [if_pos h']; omega
    · rw [if_neg h']; omega
theorem ag_hi {p V : Int} {D : Nat} (hp : p.natAbs ≤ 9218868437227405312) : 0 ≤ agP p V D ↔ Hi p V D := by
  unfold agP Hi
  by_cases h : -9218868437227405312 < p ∧ p < 9218868437227405312
  · rw [if_pos h, sign_ge]; omega
  · rw [if_neg h]
    by_cases h' : p < 0
    · rw [if_pos h']; omega
    · rw [if_neg h']; omega
theorem ho_iff {px py V : Int} {D : Nat} (hp : px.natAbs ≤ 9218868437227405312) (hq : py.natAbs ≤ 9218868437227405312) : hoB px py V D = true ↔ Lo px V D ∧ Hi py V D := by
  rw [← ag_lo hp, ← ag_hi hq]
  unfold hoB
  by_cases h : agP px V D ≤ 0
  · rw [if_pos h, decide_eq_true_eq]; exact ⟨fun h' => ⟨h, h'⟩, fun h' => h'.2⟩
  · rw [if_neg h]; exact ⟨fun h' => (nomatch h'), fun h' => absurd h'.1 h⟩
theorem uFi : (0 : Int) < (uF : Int) := by have := uF_pos; omega
theorem mul_le_iff {a b c : Int} (h : 0 < c) : c * a ≤ c * b ↔ a ≤ b := ⟨fun h' => Int.le_of_mul_le_mul_left h' h, fun h' => Int.mul_le_mul_of_nonneg_left h' (Int.le_of_lt h)⟩
theorem lo_low {p V : Int} {D : Nat} (hD : D ≠ 0) : Lo p (nR V D) (dR V D) ↔ Lo p V D := by
  have h1 := g_nR V D
  have h2 : ((Nat.gcd V.natAbs D : Nat) : Int) * (dR V D : Int) = (D : Int) := by rw [← Int.natCast_mul, g_dR]
  have hg : (0 : Int) < ((Nat.gcd V.natAbs D : Nat) : Int) := by have := Nat.gcd_pos_of_pos_right V.natAbs (by omega : 0 < D); omega
  unfold Lo
  generalize ((Nat.gcd V.natAbs D : Nat) : Int) = g at *
  generalize ((dR V D : Nat) : Int) = d at *
  generalize nR V D = n at *
  rw [← mul_le_iff hg (a := vp p * d), show g * (vp p * d) = vp p * (D : Int) by rw [← h2]; grind, show g * (n * (uF : Int)) = V * (uF : Int) by rw [← h1]; grind]
theorem hi_low {p V : Int} {D : Nat} (hD : D ≠ 0) : Hi p (nR V D) (dR V D) ↔ Hi p V D := by
  have h1 := g_nR V D
  have h2 : ((Nat.gcd V.natAbs D : Nat) : Int) * (dR V D : Int) = (D : Int) := by rw [← Int.natCast_mul, g_dR]
  have hg : (0 : Int) < ((Nat.gcd V.natAbs D : Nat) : Int) := by have := Nat.gcd_pos_of_pos_right V.natAbs (by omega : 0 < D); omega
  unfold Hi
  generalize ((Nat.gcd V.natAbs D : Nat) : Int) = g at *
  generalize ((dR V D : Nat) : Int) = d at *
  generalize nR V D = n at *
  rw [← mul_le_iff hg (b := vp p * d), show g * (vp p * d) = vp p * (D : Int) by rw [← h2]; grind, show g * (n * (uF : Int)) = V * (uF : Int) by rw [← h1]; grind]
theorem lo_neg {p V : Int} {D : Nat} : Lo (-p) (-V) D ↔ Hi p V D := by
  unfold Lo Hi
  rw [vp_neg, Int.neg_mul, Int.neg_mul]
  omega
theorem hi_neg {p V : Int} {D : Nat} : Hi (-p) (-V) D ↔ Lo p V D := by
  unfold Lo Hi
  rw [vp_neg, Int.neg_mul, Int.neg_mul]
  omega
theorem vp_le {p q : Int} (h : p ≤ q) : vp p ≤ vp q := by
  rcases Int.lt_or_eq_of_le h with h | rfl
  · exact Int.le_of_lt (vp_mono h)
  · exact Int.le_refl _
theorem lo_mono {p q V : Int} {D : Nat} (h : p ≤ q) (hq : Lo q V D) : Lo p V D := by
  unfold Lo at *
  have := Int.mul_le_mul_of_nonneg_right (vp_le h) (Int.natCast_nonneg D)
  omega
theorem hi_mono {p q V : Int} {D : Nat} (h : q ≤ p) (hq : Hi q V D) : Hi p V D := by
  unfold Hi at *
  have := Int.mul_le_mul_of_nonneg_right (vp_le h) (Int.natCast_nonneg D)
  omega
/-- A step down, a step up. -/
def dnQ (p : Int) : Int := if p = -9218868437227405312 then p else p - 1
def upQ (p : Int) : Int := if p = 9218868437227405312 then p else p + 1
theorem dnQ_mono {p q : Int} (h : p ≤ q) (hp : -9218868437227405312 ≤ p) : dnQ p ≤ dnQ q := by unfold dnQ; split <;> split <;> omega
theorem upQ_mono {p q : Int} (h : p ≤ q) (hp : q ≤ 9218868437227405312) : upQ p ≤ upQ q := by unfold upQ; split <;> split <;> omega
theorem dnQ_neg (p : Int) : dnQ (-p) = -upQ p := by unfold dnQ upQ; split <;> split <;> omega
/-- The place of the float nearest to X units of 2^-2148. -/
structure Nrd (t X : Int) : Prop where
  abs : t.natAbs ≤ 9218868437227405312
  lo : -9218868437227405312 < t - 1 → vp (t - 1) * (uF : Int) ≤ X
  hi : t + 1 < 9218868437227405312 → X ≤ vp (t + 1) * (uF : Int)
theorem vp_nat (r : Nat) : vp (r : Int) = (mg r : Int) := by unfold vp; rw [if_neg (by omega)]; simp
theorem vp_negn (r : Nat) : vp (-(r : Int)) = -(mg r : Int) := by rw [vp_neg, vp_nat]
theorem rd_neg {t X : Int} (h : Nrd t X) : Nrd (-t) (-X) := by
  refine ⟨by have := h.abs; omega, fun h1 => ?_, fun h1 => ?_⟩
  · have := h.hi (by omega)
    rw [show -t - 1 = -(t + 1) by omega, vp_neg, Int.neg_mul]; omega
  · have := h.lo (by omega)
    rw [show -t + 1 = -(t - 1) by omega, vp_neg, Int.neg_mul]; omega
theorem near_pos {X R : Nat} (hX : X ≠ 0) (h : Nearest X R) : Nrd (R : Int) (X : Int) := by
  refine ⟨by have := h.le; omega, fun _ => ?_, fun h1 => ?_⟩
  · by_cases hR : R = 0
    · subst hR
      rw [show ((0 : Nat) : Int) - 1 = -((1 : Nat) : Int) by omega, vp_negn, Int.neg_mul]
      have : (0 : Int) ≤ (mg 1 : Int) * (uF : Int) := Int.mul_nonneg (by omega) (by omega)
      omega
    · rw [show (R : Int) - 1 = ((R - 1 : Nat) : Int) by omega, vp_nat, ← Int.natCast_mul]
      have := h.down (by omega)
      omega
  · rw [show (R : Int) + 1 = ((R + 1 : Nat) : Int) by omega, vp_nat, ← Int.natCast_mul]
    have := h.up (by omega)
    omega
theorem rd_0 : Nrd 0 0 := by
  have hu := uFi
  refine ⟨by decide, fun _ => ?_, fun _ => ?_⟩
  · rw [show (0 : Int) - 1 = -((1 : Nat) : Int) by omega, vp_negn, show mg 1 = 1 from rfl]; omega
  · rw [show (0 : Int) + 1 = ((1 : Nat) : Int) by omega, vp_nat, show mg 1 = 1 from rfl]; omega
theorem near_rd {X : Int} {R : Nat} (h0 : X = 0 → R = 0) (h1 : X ≠ 0 → Nearest X.natAbs R) : Nrd (if X < 0 then -(R : Int) else (R : Int)) X := by
  by_cases hX : X = 0
  · rw [h0 hX, hX]; exact rd_0
  · have := near_pos (by omega) (h1 hX)
    by_cases hn : X < 0
    · rw [if_pos hn]
      have h2 := rd_neg this
      rwa [show -((X.natAbs : Nat) : Int) = X by omega] at h2
    · rw [if_neg hn]
      rwa [show ((X.natAbs : Nat) : Int) = X by omega] at this
theorem rd_lo {t X V : Int} {D : Nat} (h : Nrd t X) (hX : X * (D : Int) ≤ V * (uF : Int) * (uF : Int)) : Lo (dnQ t) V D := by
  unfold dnQ
  by_cases ht : t = -9218868437227405312
  · rw [if_pos ht]; left; omega
  · rw [if_neg ht]
    by_cases h1 : -9218868437227405312 < t - 1
    · right
      refine ⟨by have := h.abs; omega, ?_⟩
      have h2 := Int.mul_le_mul_of_nonneg_right (h.lo h1) (Int.natCast_nonneg D)
      refine (mul_le_iff uFi).1 ?_
      rw [show (uF : Int) * (vp (t - 1) * (D : Int)) = vp (t - 1) * (uF : Int) * (D : Int) by grind, show (uF : Int) * (V * (uF : Int)) = V * (uF : Int) * (uF : Int) by grind]
      omega
    · left; omega
theorem rd_hi {t X V : Int} {D : Nat} (h : Nrd t X) (hX : V * (uF : Int) * (uF : Int) ≤ X * (D : Int)) : Hi (upQ t) V D := by
  have := rd_lo (V := -V) (D := D) (rd_neg h) (by rw [Int.neg_mul, Int.neg_mul, Int.neg_mul]; omega)
  rw [dnQ_neg] at this
  exact lo_neg.1 this

/-! Sums. -/
theorem sum_inf {s : Bool} {a b : Nat} (ha : Ieee.double.read a = .infinity s) (hb : (∃ t m i, Ieee.double.read b = .number t m i) ∨ Ieee.double.read b = .infinity s) : arP .add a b = some (if s then -9218868437227405312 else 9218868437227405312) ∧ arP .add b a = some (if s then -9218868437227405312 else 9218868437227405312) := by
  have key : ∀ {c d : Nat}, (Ieee.double.read c).sum (Ieee.double.read d) = some (.infinity s) → arP .add c d = some (if s then -9218868437227405312 else 9218868437227405312) := fun {c d} h => by
    have hf : floatBits .add .f64 c d = some (Ieee.double.write (.infinity s)) := by
      show ((Ieee.double.read c).sum (Ieee.double.read d)).map Ieee.double.write = _
      rw [h]; rfl
    simp only [arP, hf]
    exact write_inf s
  rcases hb with ⟨t, m, i, hb⟩ | hb
  · exact ⟨key (by rw [ha, hb]; rfl), key (by rw [ha, hb]; rfl)⟩
  · exact ⟨key (by rw [ha, hb]; cases s <;> rfl), key (by rw [ha, hb]; cases s <;> rfl)⟩
theorem read_of {b : Nat} {p : Int} (h : plc b = some p) : (Fin p ∧ ∃ t m i, Ieee.double.read b = .number t m i) ∨ (p = 9218868437227405312 ∧ Ieee.double.read b = .infinity false) ∨ (p = -9218868437227405312 ∧ Ieee.double.read b = .infinity true) := by
  rcases fin_or (plc_le h) with hf | hf
  · obtain ⟨s, m, i, hr, _⟩ := fin_num h hf
    exact Or.inl ⟨hf, s, m, _, hr⟩
  · obtain ⟨s, hr, hs⟩ := inf_num h hf
    rcases hf with hf | hf
    · refine Or.inr (Or.inl ⟨hf, ?_⟩)
      cases s with
      | false => exact hr
      | true => have := hs.1 rfl; omega
    · refine Or.inr (Or.inr ⟨hf, ?_⟩)
      cases s with
      | true => exact hr
      | false => have := hs.2 (by omega); cases this
/-- The place of a sum: rounded, or an infinity. -/
theorem add_rd {a b : Nat} {p q : Int} (ha : plc a = some p) (hb : plc b = some q) (hf : Fin p) (hf' : Fin q) : ∃ t, arP .add a b = some t ∧ Nrd t ((vp p + vp q) * (uF : Int)) := by
  obtain ⟨R, h1, h2, h3, h4⟩ := add_fin ha hb hf hf'
  refine ⟨_, h1, ?_⟩
  have hu := uFi
  have := near_rd (X := (vp p + vp q) * (uF : Int)) (R := R) (fun h => h3 (by rcases Int.mul_eq_zero.1 h with h | h <;> omega)) (fun h => by
    rw [Int.natAbs_mul, Int.natAbs_natCast]
    exact h4 (fun h' => h (by rw [h', Int.zero_mul])))
  by_cases hs : vp p + vp q < 0
  · rw [if_pos (Int.mul_neg_of_neg_of_pos hs hu)] at this; rwa [if_pos hs]
  · rw [if_neg (by have := Int.mul_nonneg (show 0 ≤ vp p + vp q by omega) (Int.le_of_lt hu); omega)] at this; rwa [if_neg hs]
theorem add_lo {a b : Nat} {p q : Int} (ha : plc a = some p) (hb : plc b = some q) (hp : p < 9218868437227405312) (hq : q < 9218868437227405312) : (Fin p ∧ Fin q ∧ ∃ t, arP .add a b = some t ∧ Nrd t ((vp p + vp q) * (uF : Int))) ∨ arP .add a b = some (-9218868437227405312) := by
  rcases read_of ha with ⟨hf, t, m, i, hr⟩ | ⟨h, _⟩ | ⟨h, hr⟩
  · rcases read_of hb with ⟨hf', t', m', i', hr'⟩ | ⟨h', _⟩ | ⟨h', hr'⟩
    · exact Or.inl ⟨hf, hf', add_rd ha hb hf hf'⟩
    · omega
    · exact Or.inr (sum_inf hr' (Or.inl ⟨t, m, i, hr⟩)).2
  · omega
  · rcases read_of hb with ⟨hf', t', m', i', hr'⟩ | ⟨h', _⟩ | ⟨h', hr'⟩
    · exact Or.inr (sum_inf hr (Or.inl ⟨t', m', i', hr'⟩)).1
    · omega
    · exact Or.inr (sum_inf hr (Or.inr hr')).1
theorem add_hi {a b : Nat} {p q : Int} (ha : plc a = some p) (hb : plc b = some q) (hp : -9218868437227405312 < p) (hq : -9218868437227405312 < q) : (Fin p ∧ Fin q ∧ ∃ t, arP .add a b = some t ∧ Nrd t ((vp p + vp q) * (uF : Int))) ∨ arP .add a b = some 9218868437227405312 := by
  rcases read_of ha with ⟨hf, t, m, i, hr⟩ | ⟨h, hr⟩ | ⟨h, _⟩
  · rcases read_of hb with ⟨hf', t', m', i', hr'⟩ | ⟨h', hr'⟩ | ⟨h', _⟩
    · exact Or.inl ⟨hf, hf', add_rd ha hb hf hf'⟩
    · exact Or.inr (sum_inf hr' (Or.inl ⟨t, m, i, hr⟩)).2
    · omega
  · rcases read_of hb with ⟨hf', t', m', i', hr'⟩ | ⟨h', hr'⟩ | ⟨h', _⟩
    · exact Or.inr (sum_inf hr (Or.inl ⟨t', m', i', hr'⟩)).1
    · exact Or.inr (sum_inf hr (Or.inr hr')).1
    · omega
  · omega
theorem opp_read {b : Nat} (hb : b < 18446744073709551616) : (Ieee.double.read b).opposite = Ieee.double.read ((b + 9223372036854775808) % 18446744073709551616) := by
  rw [read_f64, read_f64]
  have e1 : (b + 9223372036854775808) % 18446744073709551616 % 9223372036854775808 = b % 9223372036854775808 := by omega
  have e2 : ((b + 9223372036854775808) % 18446744073709551616 / 9223372036854775808 % 2 == 1) = !(b / 9223372036854775808 % 2 == 1) := by
    rcases (by omega : b / 9223372036854775808 = 0 ∨ b / 9223372036854775808 = 1) with h | h
    · rw [h, show (b + 9223372036854775808) % 18446744073709551616 / 9223372036854775808 = 1 by omega]; rfl
    · rw [h, show (b + 9223372036854775808) % 18446744073709551616 / 9223372036854775808 = 0 by omega]; rfl
  rw [e1, e2]
  split
  · rfl
  · split
    · rfl
    · split <;> rfl
/-- A difference is a sum with the float of the other sign. -/
theorem sub_add {a b : Nat} (hb : b < 18446744073709551616) : arP .sub a b = arP .add a ((b + 9223372036854775808) % 18446744073709551616) := by
  have : floatBits .sub .f64 a b = floatBits .add .f64 a ((b + 9223372036854775808) % 18446744073709551616) := by
    show ((Ieee.double.read a).sum (Ieee.double.read b).opposite).map Ieee.double.write = ((Ieee.double.read a).sum (Ieee.double.read _)).map Ieee.double.write
    rw [opp_read hb]
  simp only [arP, this]
theorem plc_opp {b : Nat} (hb : b < 18446744073709551616) {p : Int} (h : plc b = some p) : plc ((b + 9223372036854775808) % 18446744073709551616) = some (-p) := by
  unfold plc at *
  rw [show (b + 9223372036854775808) % 18446744073709551616 % 9223372036854775808 = b % 9223372036854775808 by omega]
  split at h
  · rename_i h0
    rw [if_pos h0]
    have := Option.some.inj h
    refine congrArg some ?_
    by_cases h1 : b / 9223372036854775808 % 2 = 1
    · rw [if_pos h1] at this; rw [if_neg (by omega)]; omega
    · rw [if_neg h1] at this; rw [if_pos (by omega)]; omega
  · cases h
/-- The lower end of a sum. -/
theorem lo_add {a b : Nat} {p q A B : Int} {D E : Nat} (ha : plc a = some p) (hb : plc b = some q) (h1 : Lo p A D) (h2 : Lo q B E) : ∃ t, loP (arP .add a b) = some t ∧ t.natAbs ≤ 9218868437227405312 ∧ Lo t (A * (E : Int) + B * (D : Int)) (D * E) := by
  have k1 := plc_le ha
  have k2 := plc_le hb
  rcases add_lo ha hb (by unfold Lo at h1; omega) (by unfold Lo at h2; omega) with ⟨f1, f2, t, h3, h4⟩ | h3
  · refine ⟨dnQ t, by rw [h3]; rfl, by have := h4.abs; unfold dnQ; split <;> omega, rd_lo h4 ?_⟩
    have g1 : vp p * (D : Int) ≤ A * (uF : Int) := by unfold Lo at h1; unfold Fin at f1; omega
    have g2 : vp q * (E : Int) ≤ B * (uF : Int) := by unfold Lo at h2; unfold Fin at f2; omega
    have m1 := Int.mul_le_mul_of_nonneg_right g1 (Int.natCast_nonneg E)
    have m2 := Int.mul_le_mul_of_nonneg_right g2 (Int.natCast_nonneg D)
    have m3 := Int.mul_le_mul_of_nonneg_right (Int.add_le_add m1 m2) (Int.le_of_lt uFi)
    rw [Int.natCast_mul]
    refine Int.le_trans (Int.le_of_eq ?_) (Int.le_trans m3 (Int.le_of_eq ?_))
    · grind
    · grind
  · exact ⟨-9218868437227405312, by rw [h3]; rfl, by decide, Or.inl (Int.le_refl _)⟩
theorem hi_add {a b : Nat} {p q A B : Int} {D E : Nat} (ha : plc a = some p) (hb : plc b = some q) (h1 : Hi p A D) (h2 : Hi q B E) : ∃ t, hiP (arP .add a b) = some t ∧ t.natAbs ≤ 9218868437227405312 ∧ Hi t (A * (E : Int) + B * (D : Int)) (D * E) := by
  have k1 := plc_le ha
  have k2 := plc_le hb
  rcases add_hi ha hb (by unfold Hi at h1; omega) (by unfold Hi at h2; omega) with ⟨f1, f2, t, h3, h4⟩ | h3
  · refine ⟨upQ t, by rw [h3]; rfl, by have := h4.abs; unfold upQ; split <;> omega, rd_hi h4 ?_⟩
    have g1 : A * (uF : Int) ≤ vp p * (D : Int) := by unfold Hi at h1; unfold Fin at f1; omega
    have g2 : B * (uF : Int) ≤ vp q * (E : Int) := by unfold Hi at h2; unfold Fin at f2; omega
    have m1 := Int.mul_le_mul_of_nonneg_right g1 (Int.natCast_nonneg E)
    have m2 := Int.mul_le_mul_of_nonneg_right g2 (Int.natCast_nonneg D)
    have m3 := Int.mul_le_mul_of_nonneg_right (Int.add_le_add m1 m2) (Int.le_of_lt uFi)
    rw [Int.natCast_mul]
    refine Int.le_trans (Int.le_of_eq ?_) (Int.le_trans m3 (Int.le_of_eq ?_))
    · grind
    · grind
  · exact ⟨9218868437227405312, by rw [h3]; rfl, by decide, Or.inl (Int.le_refl _)⟩
theorem lo_sub {a b : Nat} (hbb : b < 18446744073709551616) {p q A B : Int} {D E : Nat} (ha : plc a = some p) (hb : plc b = some q) (h1 : Lo p A D) (h2 : Hi q (-B) E) : ∃ t, loP (arP .sub a b) = some t ∧ t.natAbs ≤ 9218868437227405312 ∧ Lo t (A * (E : Int) + B * (D : Int)) (D * E) := by
  rw [sub_add hbb]
  exact lo_add ha (plc_opp hbb hb) h1 (by have := lo_neg.2 h2; rwa [Int.neg_neg] at this)
theorem hi_sub {a b : Nat} (hbb : b < 18446744073709551616) {p q A B : Int} {D E : Nat} (ha : plc a = some p) (hb : plc b = some q) (h1 : Hi p A D) (h2 : Lo q (-B) E) : ∃ t, hiP (arP .sub a b) = some t ∧ t.natAbs ≤ 9218868437227405312 ∧ Hi t (A * (E : Int) + B * (D : Int)) (D * E) := by
  rw [sub_add hbb]
  exact hi_add ha (plc_opp hbb hb) h1 (by have := hi_neg.2 h2; rwa [Int.neg_neg] at this)

/-! Products. -/
/-- The place of a product of ends. -/
structure Tm (p q t : Int) : Prop where
  zero : p = 0 ∨ q = 0 → t = 0
  fin : Fin p → Fin q → Nrd t (vp p * vp q)
  inf : p ≠ 0 → q ≠ 0 → ¬ (Fin p ∧ Fin q) → t = if p * q < 0 then -9218868437227405312 else 9218868437227405312
  abs : t.natAbs ≤ 9218868437227405312
theorem tm_of {a b : Nat} {p q t : Int} (ha : plc a = some p) (hb : plc b = some q) (h : tmP a b = some t) : Tm p q t := by
  by_cases hz : p = 0 ∨ q = 0
  · have ht : t = 0 := by
      rcases hz with rfl | rfl
      · rw [tm_1 ha] at h; exact (Option.some.inj h).symm
      · rw [tm_2 hb] at h; exact (Option.some.inj h).symm
    subst ht
    refine ⟨fun _ => rfl, fun _ _ => ?_, fun h1 h2 => by omega, by decide⟩
    have : vp p * vp q = 0 := by
      rcases hz with rfl | rfl
      · rw [show vp 0 = 0 from rfl, Int.zero_mul]
      · rw [show vp 0 = 0 from rfl, Int.mul_zero]
    rw [this]; exact rd_0
  · have hp : p ≠ 0 := fun h => hz (Or.inl h)
    have hq : q ≠ 0 := fun h => hz (Or.inr h)
    rw [tm_3 (by rw [ha]; simpa using hp) (by rw [hb]; simpa using hq)] at h
    by_cases hf : Fin p ∧ Fin q
    · obtain ⟨R, h1, h2, h3, h4⟩ := mul_fin ha hb hf.1 hf.2
      rw [h] at h1
      have h1 := Option.some.inj h1
      subst h1
      have := near_rd h3 h4
      exact ⟨fun h => absurd h hz, fun _ _ => this, fun _ _ h => absurd hf h, this.abs⟩
    · have h1 := mul_inf ha hb hp hq hf (plc_le ha) (plc_le hb)
      rw [h] at h1
      have h1 := Option.some.inj h1
      refine ⟨fun h => absurd h hz, fun f1 f2 => absurd ⟨f1, f2⟩ hf, fun _ _ _ => h1, by rw [h1]; split <;> decide⟩
theorem Tm.neg {p q t : Int} (h : Tm p q t) : Tm (-p) q (-t) := by
  refine ⟨fun h1 => by have := h.zero (by omega); omega, fun f1 f2 => ?_, fun h1 h2 h3 => ?_, by have := h.abs; omega⟩
  · have := rd_neg (h.fin (by unfold Fin at *; omega) f2)
    rwa [vp_neg, Int.neg_mul]
  · have := h.inf (by omega) h2 (fun hf => h3 ⟨by unfold Fin at *; omega, hf.2⟩)
    rw [this, Int.neg_mul]
    rcases Int.lt_trichotomy (p * q) 0 with h4 | h4 | h4
    · rw [if_pos h4, if_neg (by omega)]; rfl
    · rcases Int.mul_eq_zero.1 h4 with h5 | h5
      · omega
      · exact absurd h5 h2
    · rw [if_neg (by omega), if_pos (by omega)]
theorem vp_pos {p : Int} : 0 ≤ p → 0 ≤ vp p := fun h => by have := vp_le h; rwa [show vp 0 = 0 from rfl] at this
theorem vp_neg' {p : Int} : p ≤ 0 → vp p ≤ 0 := fun h => by have := vp_le h; rwa [show vp 0 = 0 from rfl] at this
theorem lo_dn0 {V : Int} {D : Nat} (h : 0 ≤ V) : Lo (dnQ 0) V D := rd_lo rd_0 (by rw [Int.zero_mul]; exact Int.mul_nonneg (Int.mul_nonneg h (Int.le_of_lt uFi)) (Int.le_of_lt uFi))
theorem lo_dni {t V : Int} {D : Nat} (h : t = -9218868437227405312) : Lo (dnQ t) V D := by rw [h]; exact Or.inl (by decide)
theorem mul_lo {p q t A B : Int} {D E : Nat} (T : Tm p q t) (f1 : Fin p) (f2 : Fin q) (h : vp p * (D : Int) * (vp q * (E : Int)) ≤ A * (uF : Int) * (B * (uF : Int))) : Lo (dnQ t) (A * B) (D * E) := by
  refine rd_lo (T.fin f1 f2) ?_
  rw [Int.natCast_mul]
  refine Int.le_trans (Int.le_of_eq ?_) (Int.le_trans h (Int.le_of_eq ?_))
  · grind
  · grind
theorem lo_sgn {p V : Int} {D : Nat} (hD : D ≠ 0) (h : Lo p V D) (hp : 0 ≤ p) : 0 ≤ V := by
  rcases h with h | ⟨_, h⟩
  · omega
  · have : 0 ≤ vp p * (D : Int) := Int.mul_nonneg (vp_pos hp) (Int.natCast_nonneg D)
    apply Classical.byContradiction
    intro hc
    have := Int.mul_neg_of_neg_of_pos (show V < 0 by omega) uFi
    omega
theorem hi_sgn {p V : Int} {D : Nat} (hD : D ≠ 0) (h : Hi p V D) (hp : p ≤ 0) : V ≤ 0 := by
  have := lo_sgn hD (lo_neg.2 h) (by omega)
  omega
theorem mul_pos_neg {p q : Int} (h1 : p < 0) (h2 : 0 < q) : p * q < 0 := Int.mul_neg_of_neg_of_pos h1 h2
/-- The least product is below the number's. -/
theorem prod_lo {px py qx qy A B p0 p1 p2 p3 : Int} {D E : Nat} (hD : D ≠ 0) (hE : E ≠ 0) (h1 : Lo px A D) (h2 : Hi py A D) (h3 : Lo qx B E) (h4 : Hi qy B E) (r1 : px.natAbs ≤ 9218868437227405312) (r2 : py.natAbs ≤ 9218868437227405312) (r3 : qx.natAbs ≤ 9218868437227405312) (r4 : qy.natAbs ≤ 9218868437227405312)
    (T0 : Tm px qx p0) (T1 : Tm px qy p1) (T2 : Tm py qx p2) (T3 : Tm py qy p3) : Lo (dnQ p0) (A * B) (D * E) ∨ Lo (dnQ p1) (A * B) (D * E) ∨ Lo (dnQ p2) (A * B) (D * E) ∨ Lo (dnQ p3) (A * B) (D * E) := by
  have hu := uFi
  by_cases hB : 0 ≤ B
  · have hBu : 0 ≤ B * (uF : Int) := Int.mul_nonneg hB (Int.le_of_lt hu)
    by_cases hp : 0 ≤ px
    · left
      have hA := lo_sgn hD h1 hp
      have f1 : Fin px := by unfold Lo at h1; unfold Fin; omega
      have g1 : vp px * (D : Int) ≤ A * (uF : Int) := by unfold Lo at h1; unfold Fin at f1; omega
      by_cases hq : qx = -9218868437227405312
      · by_cases h0 : px = 0
        · rw [T0.zero (Or.inl h0)]; exact lo_dn0 (Int.mul_nonneg hA hB)
        · refine lo_dni ?_
          rw [T0.inf h0 (by omega) (fun h => by have := h.2; unfold Fin at this; omega), if_pos (Int.mul_neg_of_pos_of_neg (by omega) (by omega))]
      · have f2 : Fin qx := by unfold Lo at h3; unfold Fin; omega
        have g2 : vp qx * (E : Int) ≤ B * (uF : Int) := by unfold Lo at h3; omega
        refine mul_lo T0 f1 f2 (Int.le_trans (Int.mul_le_mul_of_nonneg_left g2 (Int.mul_nonneg (vp_pos hp) (Int.natCast_nonneg D))) (Int.mul_le_mul_of_nonneg_right g1 hBu))
    · right; left
      have hqy : 0 ≤ qy := by
        apply Classical.byContradiction
        intro hc
        have := hi_sgn hE h4 (by omega)
        have hB0 : B = 0 := by omega
        subst hB0
        unfold Hi at h4
        rw [Int.zero_mul] at h4
        have h5 : 0 ≤ vp qy * (E : Int) := by omega
        have h6 : vp qy < 0 := vp_neg_iff.2 (by omega)
        have := Int.mul_neg_of_neg_of_pos h6 (show (0 : Int) < (E : Int) by omega)
        omega
      by_cases h0 : qy = 0
      · have hB0 : B = 0 := by have := hi_sgn hE h4 (by omega); omega
        rw [T1.zero (Or.inr h0), hB0, Int.mul_zero]; exact lo_dn0 (Int.le_refl _)
      · by_cases hf : Fin px ∧ Fin qy
        · have g1 : vp px * (D : Int) ≤ A * (uF : Int) := by unfold Lo at h1; have := hf.1; unfold Fin at this; omega
          have g2 : B * (uF : Int) ≤ vp qy * (E : Int) := by unfold Hi at h4; have := hf.2; unfold Fin at this; omega
          have n1 : vp px * (D : Int) ≤ 0 := by
            have := Int.mul_le_mul_of_nonneg_right (vp_neg' (p := px) (by omega)) (Int.natCast_nonneg D)
            rwa [Int.zero_mul] at this
          refine mul_lo T1 hf.1 hf.2 (Int.le_trans (Int.mul_le_mul_of_nonpos_left n1 g2) (Int.mul_le_mul_of_nonneg_right g1 hBu))
        · refine lo_dni ?_
          rw [T1.inf (by omega) h0 hf, if_pos (mul_pos_neg (by omega) (by omega))]
  · have hBu : B * (uF : Int) ≤ 0 := by have := Int.mul_neg_of_neg_of_pos (show B < 0 by omega) hu; omega
    have hqx : qx < 0 := by
      apply Classical.byContradiction
      intro hc
      have := lo_sgn hE h3 (by omega)
      omega
    by_cases hp : 0 ≤ py
    · right; right; left
      by_cases h0 : py = 0
      · have hA := hi_sgn hD h2 (by omega)
        rw [T2.zero (Or.inl h0)]; exact lo_dn0 (Int.mul_nonneg_of_nonpos_of_nonpos hA (by omega))
      · by_cases hf : Fin py ∧ Fin qx
        · have g1 : A * (uF : Int) ≤ vp py * (D : Int) := by unfold Hi at h2; have := hf.1; unfold Fin at this; omega
          have g2 : vp qx * (E : Int) ≤ B * (uF : Int) := by unfold Lo at h3; have := hf.2; unfold Fin at this; omega
          refine mul_lo T2 hf.1 hf.2 (Int.le_trans (Int.mul_le_mul_of_nonneg_left g2 (Int.mul_nonneg (vp_pos hp) (Int.natCast_nonneg D))) (Int.mul_le_mul_of_nonpos_right g1 hBu))
        · refine lo_dni ?_
          rw [T2.inf h0 (by omega) hf, if_pos (Int.mul_neg_of_pos_of_neg (by omega) hqx)]
    · right; right; right
      have f1 : Fin py := by unfold Hi at h2; unfold Fin; omega
      have g1 : A * (uF : Int) ≤ vp py * (D : Int) := by unfold Hi at h2; unfold Fin at f1; omega
      by_cases hf : Fin qy
      · have g2 : B * (uF : Int) ≤ vp qy * (E : Int) := by unfold Hi at h4; unfold Fin at hf; omega
        have n1 : vp py * (D : Int) ≤ 0 := by
          have := Int.mul_le_mul_of_nonneg_right (vp_neg' (p := py) (by omega)) (Int.natCast_nonneg D)
          rwa [Int.zero_mul] at this
        refine mul_lo T3 f1 hf (Int.le_trans (Int.mul_le_mul_of_nonpos_left n1 g2) (Int.mul_le_mul_of_nonpos_right g1 hBu))
      · have : qy = 9218868437227405312 := by unfold Hi at h4; unfold Fin at hf; omega
        refine lo_dni ?_
        rw [T3.inf (by omega) (by omega) (fun h => hf h.2), if_pos (mul_pos_neg (by omega) (by omega))]
theorem prod_hi {px py qx qy A B p0 p1 p2 p3 : Int} {D E : Nat} (hD : D ≠ 0) (hE : E ≠ 0) (h1 : Lo px A D) (h2 : Hi py A D) (h3 : Lo qx B E) (h4 : Hi qy B E) (r1 : px.natAbs ≤ 9218868437227405312) (r2 : py.natAbs ≤ 9218868437227405312) (r3 : qx.natAbs ≤ 9218868437227405312) (r4 : qy.natAbs ≤ 9218868437227405312)
    (T0 : Tm px qx p0) (T1 : Tm px qy p1) (T2 : Tm py qx p2) (T3 : Tm py qy p3) : Hi (upQ p0) (A * B) (D * E) ∨ Hi (upQ p1) (A * B) (D * E) ∨ Hi (upQ p2) (A * B) (D * E) ∨ Hi (upQ p3) (A * B) (D * E) := by
  have := prod_lo (A := -A) hD hE (lo_neg.2 h2) (hi_neg.2 h1) h3 h4 (by omega) (by omega) r3 r4 T2.neg T3.neg T0.neg T1.neg
  rw [dnQ_neg, dnQ_neg, dnQ_neg, dnQ_neg, Int.neg_mul, lo_neg, lo_neg, lo_neg, lo_neg] at this
  rcases this with h | h | h | h
  · exact Or.inr (Or.inr (Or.inl h))
  · exact Or.inr (Or.inr (Or.inr h))
  · exact Or.inl h
  · exact Or.inr (Or.inl h)
end Go.Proofs.YtgalppimdmjdcabGreat
