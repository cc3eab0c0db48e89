/-
  Plain mathematics of ZintBack: a text there and back; what the top bits are.
-/
import Derived.Test.YtoplejeljmpcpaaDoorZReadMath
import Derived.Test.YtoplejeljmpcpaaDoorZTop
import Derived.Test.YtoplejeljmpcpaaDoorZText
import Derived.Test.YtoplejeljmpcpaaDoorZShift
namespace Go.Proofs.YtoplejeljmpcpaaDoor
open Go Go.RowKit Nt
set_option linter.unusedSimpArgs false
set_option linter.unusedVariables false
set_option maxRecDepth 20000

theorem dec_head1 {u : Nat} (h : 0 < u) : (Lib.decDigits u).getD 0 0 ≠ 48 := by
  rcases Nat.lt_or_ge 1 (Lib.decDigits u).length with h1 | h1
  · exact dec_head u h1
  · by_cases hu : u < 10
    · rw [Lib.decDigits_one hu]
      show UInt8.ofNat (48 + u) ≠ 48
      intro e
      have e1 := congrArg UInt8.toNat e
      rw [ofNat_dig hu] at e1
      have : (48 : UInt8).toNat = 48 := rfl
      omega
    · rw [Lib.decDigits, dif_neg hu, List.length_append, List.length_singleton] at h1
      have := List.length_pos_iff.2 (dec_ne (u / 10))
      omega
theorem bt_cons (a : UInt8) (l : List UInt8) (i : Nat) : bt (a :: l) (i + 1) = bt l i := by simp [bt]
theorem txt_rd {A : Int} (h : (txZ A).length ≤ 65536) : RdIs (txZ A) A 0 0 := by
  have hne := dec_ne A.natAbs
  have hpos : 0 < (Lib.decDigits A.natAbs).length := List.length_pos_iff.2 hne
  by_cases hA : A < 0
  · have e : txZ A = 45 :: Lib.decDigits A.natAbs := if_pos hA
    have b0 : bt (txZ A) 0 = 45 := by rw [e]; rfl
    have hN : isN (txZ A) = true := by unfold isN; rw [b0, e]; simp
    have ht : tl (txZ A) = Lib.decDigits A.natAbs := by rw [tl_t hN, e]; rfl
    have b1 : bt (txZ A) 1 ≠ 48 := by
      rw [e]
      show bt (Lib.decDigits A.natAbs) 0 ≠ 48
      intro h48
      exact dec_head1 (by omega) (b48.2 h48)
    have := RdIs.ok (l := txZ A) h (fun j hj => by
      match j, hj with
      | 0, _ => exact goes_m0 b0
      | j + 1, hj =>
        refine (goes_minus b0 b1).2 ?_
        rw [e] at hj ⊢
        exact dec_good _ j (by simpa using hj)) (by rw [ht]; exact hne)
    rw [ht, hN, decV_dec] at this
    rw [show sg true A.natAbs = A from by simp [sg]; omega] at this
    exact this
  · have e : txZ A = Lib.decDigits A.natAbs := if_neg hA
    have hd0 := dec_digs A.natAbs
    have b0 : bt (txZ A) 0 ≠ 45 := by
      rw [e]
      have : dig ((Lib.decDigits A.natAbs).getD 0 0) := hd0 _ (by rw [List.getD_eq_getElem?_getD, List.getElem?_eq_getElem hpos]; exact List.getElem_mem _)
      unfold dig at this
      unfold bt
      omega
    have hN : isN (txZ A) = false := by unfold isN; simp [b0]
    have ht : tl (txZ A) = Lib.decDigits A.natAbs := by rw [tl_f hN, e]
    have := RdIs.ok (l := txZ A) h (fun j hj => (goes_plain b0).2 (by rw [e] at hj ⊢; exact dec_good _ j hj)) (by rw [ht]; exact hne)
    rw [ht, hN, decV_dec] at this
    rw [show sg false A.natAbs = A from by simp [sg]; omega] at this
    exact this
theorem decV_pos {t : List UInt8} (h : t ≠ []) (hd : dgB (bt t 0) = true) (h0 : bt t 0 ≠ 48) : 0 < decV t := by
  cases t with
  | nil => exact absurd rfl h
  | cons a r =>
    have h1 := dgB_iff.1 hd
    have e : decV (a :: r) = decV [a] * 10 ^ r.length + decV r := decV_app [a] r
    have e2 : decV [a] = a.toNat - 48 := by simp [decV]
    have e3 : bt (a :: r) 0 = a.toNat := rfl
    have : 0 < 10 ^ r.length := Nat.pow_pos (by omega)
    have h4 : 1 ≤ decV [a] := by omega
    have h5 : 1 * 10 ^ r.length ≤ decV [a] * 10 ^ r.length := Nat.mul_le_mul_right _ h4
    omega
theorem dec_of (t : List UInt8) : (∀ j, j < t.length → ¬ bad t j) → t ≠ [] → Lib.decDigits (decV t) = t := by
  induction t using snocInd with
  | h0 => intro _ h; exact absurd rfl h
  | h1 r b ih =>
    intro hg _
    have hl : (r ++ [b]).length = r.length + 1 := by simp
    have hb := dgB_iff.1 (good_bt.1 (hg r.length (by omega))).1
    have eb : bt (r ++ [b]) r.length = b.toNat := by simp [bt]
    rw [eb] at hb
    have hbb : UInt8.ofNat (48 + (b.toNat - 48)) = b := by
      apply UInt8.toNat_inj.1
      rw [ofNat_dig (by omega)]
      omega
    by_cases hr : r = []
    · subst hr
      have e : decV ([] ++ [b]) = b.toNat - 48 := by simp [decV]
      rw [e, Lib.decDigits_one (by omega), hbb]
      rfl
    · have hrl : 0 < r.length := List.length_pos_iff.2 hr
      have e0 : ∀ j, j < r.length → bt (r ++ [b]) j = bt r j := fun j hj => by
        unfold bt
        rw [List.getD_eq_getElem?_getD, List.getElem?_append_left hj, ← List.getD_eq_getElem?_getD]
      have hgr : ∀ j, j < r.length → ¬ bad r j := fun j hj => by
        have := good_bt.1 (hg j (by omega))
        rw [e0 j hj, e0 0 hrl] at this
        exact good_bt.2 this
      have h48 : bt r 0 ≠ 48 := fun h => (good_bt.1 (hg r.length (by omega))).2 ⟨hrl, by rw [e0 0 hrl]; exact h⟩
      have hp := decV_pos hr (good_bt.1 (hgr 0 hrl)).1 h48
      have e : decV (r ++ [b]) = decV r * 10 + (b.toNat - 48) := decV_snoc r b
      rw [Lib.decDigits, dif_neg (by omega), show decV (r ++ [b]) / 10 = decV r from by omega, show decV (r ++ [b]) % 10 = b.toNat - 48 from by omega, ih hgr hr, hbb]
theorem rd_txt {l : List UInt8} {Z E : Int} {A : Nat} (h : RdIs l Z A E) (hE : E = 0) : txZ Z = l := by
  cases h with
  | long h => cases hE
  | bad i h1 h2 h3 h4 => cases hE
  | none h1 h2 h3 => cases hE
  | ok h1 h2 h3 =>
    have hd := all_dig h2
    cases e : isN l with
    | true =>
      obtain ⟨p1, p2⟩ := isN_t e
      rw [tl_t e] at h3 hd ⊢
      have hp : 1 < l.length := by
        apply Classical.byContradiction
        intro hc
        exact h3 (List.drop_eq_nil_of_le (by omega))
      have h48 : bt l 1 ≠ 48 := fun h5 => by
        have := h2 1 (by omega)
        rw [goes_m1 p2 h5] at this
        cases this
      have h0 : bt (l.drop 1) 0 ≠ 48 := by rw [bt_drop]; exact h48
      have hv := decV_pos h3 (hd 0 (List.length_pos_iff.2 h3)) h0
      have e1 := dec_of (l.drop 1) (fun i hi => (goes_minus p2 h48).1 (h2 (i + 1) (by simp at hi; omega))) h3
      have hz : sg true (decV (l.drop 1)) < 0 := by unfold sg; rw [if_pos rfl]; omega
      rw [txZ_neg hz, sg_abs]
      unfold txN
      rw [e1]
      cases l with
      | nil => simp at hp
      | cons a r =>
        have : a = 45 := UInt8.toNat_inj.1 p2
        rw [this]
        rfl
    | false =>
      rw [tl_f e] at h3 hd ⊢
      have e1 := dec_of l (fun i hi => (goes_plain (isN_plain e)).1 (h2 i hi)) h3
      have hz : 0 ≤ sg false (decV l) := by simp [sg]
      rw [txZ_pos hz, sg_abs]
      exact e1
theorem tx42 : txZ (-7 * 6) = [45, 52, 50] := by
  have e : txZ (-7 * 6) = 45 :: txN 42 := txZ_neg (by decide)
  rw [e]
  unfold txN
  rw [Lib.decDigits, dif_neg (by decide), Lib.decDigits_one (by decide)]
  rfl
/-! Roots. -/
theorem rt_ex : ∀ X, ∃ R, IsRoot X R
  | 0 => ⟨0, by unfold IsRoot; omega⟩
  | X + 1 => by
    obtain ⟨R, h1, h2⟩ := rt_ex X
    by_cases h : (R + 1) * (R + 1) ≤ X + 1
    · refine ⟨R + 1, h, ?_⟩
      have : (R + 1) * (R + 1) < (R + 1 + 1) * (R + 1 + 1) := Nat.mul_self_lt_mul_self (by omega)
      omega
    · exact ⟨R, by omega, by omega⟩
theorem rt_spec (X : Nat) : IsRoot X (rt X) := by
  unfold rt
  rw [dif_pos (rt_ex X)]
  exact Classical.choose_spec (rt_ex X)
theorem sgn_le {z : Int} (h : z ≤ 0) : z.sign ≤ 0 := by
  rcases Int.lt_trichotomy z 0 with e | e | e
  · rw [Int.sign_eq_neg_one_of_neg e]; decide
  · rw [e]; decide
  · omega
theorem sgn_gt {z : Int} (h : 0 < z) : 0 < z.sign := by rw [Int.sign_eq_one_of_pos h]; decide
theorem root_facts {A : Int} (h : 0 ≤ A) : rtE A = 0 ∧ 0 ≤ (rtV A).sign ∧ (rtV A * rtV A - A).sign ≤ 0 ∧ 0 < ((rtV A + 1) * (rtV A + 1) - A).sign := by
  have hs : ¬ A.sign < 0 := by have := sign_ge h; omega
  obtain ⟨h1, h2⟩ := rt_spec A.natAbs
  have e : rtV A = ((rt A.natAbs : Nat) : Int) := by unfold rtV; rw [if_neg hs]; simp [sg]
  have e1 : ((rt A.natAbs * rt A.natAbs : Nat) : Int) = ((rt A.natAbs : Nat) : Int) * ((rt A.natAbs : Nat) : Int) := by simp
  have e2 : (((rt A.natAbs + 1) * (rt A.natAbs + 1) : Nat) : Int) = (((rt A.natAbs : Nat) : Int) + 1) * (((rt A.natAbs : Nat) : Int) + 1) := by simp
  refine ⟨if_neg hs, ?_, ?_, ?_⟩
  · rw [e]; exact sign_ge (by omega)
  · rw [e]; exact sgn_le (by omega)
  · rw [e]; exact sgn_gt (by omega)
theorem root_neg {A : Int} (h : A < 0) : rtE A ≠ 0 ∧ A.sign < 0 := by
  have hs : A.sign < 0 := by rw [Int.sign_eq_neg_one_of_neg h]; decide
  exact ⟨by unfold rtE; rw [if_pos hs]; decide, hs⟩
theorem rtV_dl {A : Int} {k : Nat} (h : (digs A.natAbs).length ≤ k) : (digs (rtV A).natAbs).length ≤ k := by
  unfold rtV
  split
  · rw [show (0 : Int).natAbs = 0 from rfl, digs_zero]; exact Nat.zero_le _
  · rw [sg_abs]; exact Nat.le_trans (digs_length_mono (rt_le _)) h
/-! The top bits. -/
theorem top_lo (A : Int) : tM A * 2 ^ tE A ≤ A.natAbs := Nat.div_mul_le_self _ _
theorem top_hi (A : Int) : A.natAbs < (tM A + 1) * 2 ^ tE A := by
  have h1 := Nat.div_add_mod A.natAbs (2 ^ tE A)
  have h2 := Nat.mod_lt A.natAbs (Nat.pow_pos (n := tE A) (by omega : 0 < 2))
  unfold tM
  rw [Nat.add_mul, Nat.one_mul, Nat.mul_comm]
  omega
theorem top_is (A : Int) : tI A = true ↔ tM A * 2 ^ tE A = A.natAbs := by
  unfold tI tM
  rw [decide_eq_true_iff]
  have h1 := Nat.div_add_mod A.natAbs (2 ^ tE A)
  rw [Nat.mul_comm] at h1
  omega
theorem top_52 {A : Int} (h : 0 < tE A) : 4503599627370496 ≤ tM A := by
  unfold tE at h
  obtain ⟨s1, s2⟩ := bitLen_spec A.natAbs
  have h0 : A.natAbs ≠ 0 := fun e => by rw [e] at h; simp [Go.bitLen] at h
  have s3 := s2 h0
  unfold tM tE
  rw [Nat.le_div_iff_mul_le (Nat.pow_pos (by omega))]
  have e : (4503599627370496 : Nat) = 2 ^ 52 := by decide
  rw [e, ← Nat.pow_add, show 52 + (Go.bitLen A.natAbs - 53) = Go.bitLen A.natAbs - 1 from by omega]
  exact s3
theorem top_up {A : Int} (h : tE A ≤ 65536) : sw ((tM A : Nat) : Int) ((tE A : Nat) : Int) = ((tM A * 2 ^ tE A : Nat) : Int) ∧ sw (((tM A : Nat) : Int) + 1) ((tE A : Nat) : Int) = (((tM A + 1) * 2 ^ tE A : Nat) : Int) ∧ se ((tE A : Nat) : Int) = 0 := by
  have h1 : ¬ (65536 < ((tE A : Nat) : Int) ∨ ((tE A : Nat) : Int) < -65536) := by omega
  refine ⟨?_, ?_, if_neg h1⟩
  · unfold sw; rw [if_neg h1, if_pos (by omega)]; simp
  · unfold sw; rw [if_neg h1, if_pos (by omega)]; simp
theorem top_far {A : Int} (h : 65536 < tE A) : sw ((tM A : Nat) : Int) ((tE A : Nat) : Int) = 0 ∧ sw (((tM A : Nat) : Int) + 1) ((tE A : Nat) : Int) = 0 ∧ se ((tE A : Nat) : Int) = 2 := by
  have h1 : 65536 < ((tE A : Nat) : Int) ∨ ((tE A : Nat) : Int) < -65536 := by omega
  exact ⟨if_pos h1, if_pos h1, if_pos h1⟩
theorem two_dl {t N : Nat} (h : t ≤ N) : (digs (2 ^ t)).length ≤ N + 1 := by
  refine digs_length_le ?_
  have h1 : 2 ^ t ≤ 2 ^ N := Nat.pow_le_pow_right (by omega) h
  have e3 : (4294967296 : Nat) ^ (N + 1) = 2 ^ (32 * (N + 1)) := by rw [Nat.pow_mul]
  rw [e3]
  exact Nat.lt_of_le_of_lt h1 (Nat.pow_lt_pow_right (by omega) (by omega))
theorem sw_dl {A : Int} {k : Nat} (h : (digs A.natAbs).length ≤ k) : (digs (sw ((tM A : Nat) : Int) ((tE A : Nat) : Int)).natAbs).length ≤ k ∧ (digs (sw (((tM A : Nat) : Int) + 1) ((tE A : Nat) : Int)).natAbs).length ≤ 2 + 65537 := by
  rcases Nat.lt_or_ge 65536 (tE A) with h1 | h1
  · obtain ⟨e1, e2, _⟩ := top_far h1
    rw [e1, e2, show (0 : Int).natAbs = 0 from rfl, digs_zero]
    exact ⟨Nat.zero_le _, Nat.zero_le _⟩
  · obtain ⟨e1, e2, _⟩ := top_up h1
    rw [e1, e2]
    refine ⟨Nat.le_trans (digs_length_mono (top_lo A)) h, ?_⟩
    have h2 := tM_lt A
    exact digs_mul_len (k := 2) (l := 65537) (digs_length_le (by show _ < 18446744073709551616; omega)) (two_dl h1)
end Go.Proofs.YtoplejeljmpcpaaDoor
