/-
  Plain mathematics, no Go: what a text of a rational is read as.
-/
import Derived.Test.YtaplbadcpbollaaGreatDoorTxE
import Derived.Test.YtaplbadcpbollaaGreatDoorSetS
import Derived.Lib.IndexLaws
namespace Go.Proofs.YtaplbadcpbollaaGreatDoor
open Go Go.RowKit Nt
set_option linter.unusedSimpArgs false
set_option linter.unusedVariables false
set_option maxRecDepth 20000

/-- The digits from a on end at e. -/
def Run (l : List UInt8) (a e : Nat) : Prop := a ≤ e ∧ e ≤ l.length ∧ (∀ j, a ≤ j → j < e → dgB (bt l j) = true) ∧ (e < l.length → dgB (bt l e) = false)
def NE (l : List UInt8) (a : Nat) (z : Bool) (e : Nat) : Prop := (a < l.length ∧ bt l a = 48 ∧ e = if z then a + 1 else a) ∨ (¬ (a < l.length ∧ bt l a = 48) ∧ Run l a e)
theorem run_ex {l : List UInt8} {a : Nat} (h : a ≤ l.length) : ∃ e, Run l a e := by
  rcases first_no (fun j => dgB (bt l (a + j))) (l.length - a) with h1 | ⟨i, h1, h2, h3⟩
  · exact ⟨l.length, h, Nat.le_refl _, fun j h4 h5 => by have := h1 (j - a) (by omega); rwa [show a + (j - a) = j by omega] at this, fun h4 => by omega⟩
  · exact ⟨a + i, by omega, by omega, fun j h4 h5 => by have := h3 (j - a) (by omega); rwa [show a + (j - a) = j by omega] at this, fun _ => h2⟩
theorem ne_ex {l : List UInt8} {a : Nat} (z : Bool) (h : a ≤ l.length) : ∃ e, NE l a z e := by
  by_cases h1 : a < l.length ∧ bt l a = 48
  · exact ⟨_, Or.inl ⟨h1.1, h1.2, rfl⟩⟩
  · obtain ⟨e, he⟩ := run_ex h
    exact ⟨e, Or.inr ⟨h1, he⟩⟩
theorem ne_le {l : List UInt8} {a e : Nat} {z : Bool} (h : NE l a z e) : a ≤ e ∧ (a ≤ l.length → e ≤ l.length) ∧ ∀ j, a ≤ j → j < e → dgB (bt l j) = true := by
  rcases h with ⟨h1, h2, rfl⟩ | ⟨_, h1, h2, h3, _⟩
  · cases z
    · exact ⟨Nat.le_refl _, fun h => h, fun j h3 h4 => by simp at h4; omega⟩
    · exact ⟨by simp, fun _ => by simp; omega, fun j h3 h4 => by simp at h4; rw [show j = a by omega, h2]; decide⟩
  · exact ⟨h1, fun _ => h2, h3⟩
/-- Where the digits begin. -/
def Fr (l : List UInt8) (f : Nat) : Prop := (isN l = true ∧ f = 1) ∨ (isN l = false ∧ f = 0)
theorem fr_ex (l : List UInt8) : ∃ f, Fr l f := by cases e : isN l; exact ⟨0, Or.inr ⟨e, rfl⟩⟩; exact ⟨1, Or.inl ⟨e, rfl⟩⟩
theorem fr_le {l : List UInt8} {f : Nat} (h : Fr l f) : f ≤ l.length := by
  rcases h with ⟨h, rfl⟩ | ⟨_, rfl⟩
  · exact (isN_t h).1
  · exact Nat.zero_le _
/-- What is answered: numerator, denominator, place, error. -/
inductive RqIs (l : List UInt8) : Int → Nat → Nat → Int → Prop
  | long : 131072 < l.length → RqIs l 0 0 0 2
  | no (f : Nat) : l.length ≤ 131072 → Fr l f → NE l f (f == 0) f → RqIs l 0 0 f 4
  | whole (f : Nat) : l.length ≤ 131072 → Fr l f → NE l f (f == 0) l.length → f < l.length → RqIs l (sg (isN l) (decV (l.drop f))) 1 0 0
  | tail (f e : Nat) : l.length ≤ 131072 → Fr l f → NE l f (f == 0) e → f < e → e < l.length → bt l e ≠ 47 → RqIs l 0 0 e 4
  | noden (f e : Nat) : l.length ≤ 131072 → Fr l f → NE l f (f == 0) e → f < e → e < l.length → bt l e = 47 → NE l (e + 1) false (e + 1) → RqIs l 0 0 (e + 1) 4
  | dtail (f e d : Nat) : l.length ≤ 131072 → Fr l f → NE l f (f == 0) e → f < e → e < l.length → bt l e = 47 → NE l (e + 1) false d → e + 1 < d → d < l.length → RqIs l 0 0 d 4
  | frac (f e : Nat) : l.length ≤ 131072 → Fr l f → NE l f (f == 0) e → f < e → e < l.length → bt l e = 47 → NE l (e + 1) false l.length → e + 1 < l.length →
      RqIs l (nR (sg (isN l) (decV ((l.drop f).take (e - f)))) (decV (l.drop (e + 1)))) (dR (sg (isN l) (decV ((l.drop f).take (e - f)))) (decV (l.drop (e + 1)))) 0 0
theorem rq_some (l : List UInt8) : ∃ N D A E, RqIs l N D A E := by
  by_cases h : 131072 < l.length
  · exact ⟨_, _, _, _, .long h⟩
  obtain ⟨f, hf⟩ := fr_ex l
  obtain ⟨e, he⟩ := ne_ex (f == 0) (fr_le hf)
  obtain ⟨h1, h2, h3⟩ := ne_le he
  have h2' := h2 (fr_le hf)
  by_cases c1 : e = f
  · subst c1; exact ⟨_, _, _, _, .no e (by omega) hf he⟩
  by_cases c2 : e = l.length
  · subst c2; exact ⟨_, _, _, _, .whole f (by omega) hf he (by omega)⟩
  by_cases c3 : bt l e = 47
  · obtain ⟨d, hd⟩ := ne_ex (l := l) (a := e + 1) false (by omega)
    obtain ⟨g1, g2, g3⟩ := ne_le hd
    have g2' := g2 (by omega)
    by_cases c4 : d = e + 1
    · subst c4; exact ⟨_, _, _, _, .noden f e (by omega) hf he (by omega) (by omega) c3 hd⟩
    by_cases c5 : d = l.length
    · subst c5; exact ⟨_, _, _, _, .frac f e (by omega) hf he (by omega) (by omega) c3 hd (by omega)⟩
    · exact ⟨_, _, _, _, .dtail f e d (by omega) hf he (by omega) (by omega) c3 hd (by omega) (by omega)⟩
  · exact ⟨_, _, _, _, .tail f e (by omega) hf he (by omega) (by omega) c3⟩

theorem decV_pos' {t : List UInt8} (h : t ≠ []) (hd : dgB (bt t 0) = true) (h0 : bt t 0 ≠ 48) : 0 < decV t := by
  cases t with
  | nil => exact absurd rfl h
  | cons a r =>
    have h1 := dgB_iff.1 hd
    have e : decV (a :: r) = decV [a] * 10 ^ r.length + decV r := decV_app [a] r
    have e2 : decV [a] = a.toNat - 48 := by simp [decV]
    have e3 : bt (a :: r) 0 = a.toNat := rfl
    have : 0 < 10 ^ r.length := Nat.pow_pos (by omega)
    have h4 : 1 ≤ decV [a] := by omega
    have h5 : 1 * 10 ^ r.length ≤ decV [a] * 10 ^ r.length := Nat.mul_le_mul_right _ h4
    omega
/-! Where the slash is. -/
theorem idx_is {l : List UInt8} {c : UInt8} {o : Nat} (h : l[o]? = some c) (hb : ∀ k, k < o → l[k]? ≠ some c) : Lib.indexByte l c = o := by
  have h0 := Lib.indexByte_ge l c
  by_cases h1 : Lib.indexByte l c = -1
  · exact absurd h (Lib.indexByte_none h1 o)
  · obtain ⟨v, hv⟩ : ∃ v : Nat, Lib.indexByte l c = v := ⟨(Lib.indexByte l c).toNat, by omega⟩
    obtain ⟨h2, h3⟩ := Lib.indexByte_some hv
    rw [hv]
    rcases Nat.lt_trichotomy v o with h4 | h4 | h4
    · exact absurd h2 (hb v h4)
    · rw [h4]
    · exact absurd h (h3 o h4)
theorem idx_no {l : List UInt8} {c : UInt8} (h : ∀ k, k < l.length → l[k]? ≠ some c) : Lib.indexByte l c = -1 := by
  have h0 := Lib.indexByte_ge l c
  apply Classical.byContradiction
  intro h1
  obtain ⟨v, hv⟩ : ∃ v : Nat, Lib.indexByte l c = v := ⟨(Lib.indexByte l c).toNat, by omega⟩
  obtain ⟨h2, _⟩ := Lib.indexByte_some hv
  exact h v (List.getElem?_eq_some_iff.1 h2).1 h2
theorem at_bt {l : List UInt8} {k : Nat} {c : UInt8} (h : l[k]? = some c) : bt l k = c.toNat := by unfold bt; rw [List.getD_eq_getElem?_getD, h]; rfl
theorem bt_at {l : List UInt8} {k : Nat} {c : UInt8} (hk : k < l.length) (h : bt l k = c.toNat) : l[k]? = some c := by
  unfold bt at h
  rw [List.getD_eq_getElem?_getD, List.getElem?_eq_getElem hk] at h
  rw [List.getElem?_eq_getElem hk]
  congr 1
  exact UInt8.toNat_inj.1 h
theorem no47 {l : List UInt8} {f e k : Nat} {z : Bool} (hf : Fr l f) (he : NE l f z e) (hk : k < e) : l[k]? ≠ some 47 := fun h => by
  have h1 := at_bt h
  have h47 : (47 : UInt8).toNat = 47 := rfl
  rw [h47] at h1
  rcases Nat.lt_or_ge k f with h2 | h2
  · rcases hf with ⟨h3, rfl⟩ | ⟨_, rfl⟩
    · have := (isN_t h3).2
      rw [show k = 0 by omega] at h1
      omega
    · omega
  · have := dgB_iff.1 ((ne_le he).2.2 k h2 hk)
    omega
theorem tl_fr {l : List UInt8} {f : Nat} (h : Fr l f) : tl l = l.drop f := by
  rcases h with ⟨h, rfl⟩ | ⟨h, rfl⟩
  · exact tl_t h
  · rw [tl_f h]; rfl
theorem tl_ne {l : List UInt8} (h : isN l = true) : tl l ≠ l := fun e => by
  have h1 := congrArg List.length e
  rw [tl_t h] at h1
  have := (isN_t h).1
  simp at h1
  omega
theorem bt_take {l : List UInt8} {k j : Nat} (h : j < k) : bt (l.take k) j = bt l j := by unfold bt; rw [List.getD_eq_getElem?_getD, List.getElem?_take, if_pos h, ← List.getD_eq_getElem?_getD]
theorem isN_take {l : List UInt8} {e : Nat} (h : 0 < e) : isN (l.take e) = isN l := by
  unfold isN
  rw [bt_take h]
  congr 1
  simp
  omega
theorem fr_take {l : List UInt8} {f e : Nat} (h : Fr l f) (he : 0 < e) : Fr (l.take e) f := by unfold Fr; rw [isN_take he]; exact h
theorem drop_take' {l : List UInt8} (f e : Nat) : (l.take e).drop f = (l.drop f).take (e - f) := List.drop_take ..
/-! Digits. -/
theorem dig_seg {l : List UInt8} {f e : Nat} (h : ∀ j, f ≤ j → j < e → dgB (bt l j) = true) (he : e ≤ l.length) : ∀ j, j < ((l.drop f).take (e - f)).length → dgB (bt ((l.drop f).take (e - f)) j) = true := fun j hj => by
  have hj' : j < e - f := by simp at hj; omega
  rw [bt_take hj', bt_drop]
  exact h (f + j) (by omega) (by omega)
theorem trim_dec (t : List UInt8) : decV (t.dropWhile (· == 48)) = decV t := by
  induction t with
  | nil => rfl
  | cons a r ih =>
    by_cases ha : a = 48
    · subst ha
      rw [List.dropWhile_cons_of_pos (by rfl), ih]
      have : decV (48 :: r) = decV [48] * 10 ^ r.length + decV r := decV_app [48] r
      rw [this]
      simp [decV]
    · rw [List.dropWhile_cons_of_neg (by simpa using ha)]
theorem trim_head {t : List UInt8} (h : t.dropWhile (· == 48) ≠ []) : bt (t.dropWhile (· == 48)) 0 ≠ 48 := by
  induction t with
  | nil => exact absurd rfl h
  | cons a r ih =>
    by_cases ha : a = 48
    · subst ha
      rw [List.dropWhile_cons_of_pos (by rfl)] at h ⊢
      exact ih h
    · rw [List.dropWhile_cons_of_neg (by simpa using ha)]
      intro e
      exact ha (UInt8.toNat_inj.1 e)
theorem trim_good {t : List UInt8} (h : ∀ j, j < t.length → dgB (bt t j) = true) (hne : t.dropWhile (· == 48) ≠ []) : ∀ j, j < (t.dropWhile (· == 48)).length → ¬ bad (t.dropWhile (· == 48)) j := fun j hj => by
  refine good_bt.2 ⟨?_, fun h2 => trim_head hne h2.2⟩
  have hm : (t.dropWhile (· == 48))[j] ∈ t := (List.dropWhile_sublist _).subset (List.getElem_mem hj)
  obtain ⟨i, hi, he⟩ := List.mem_iff_getElem.1 hm
  have h1 := h i hi
  unfold bt at h1 ⊢
  rw [List.getD_eq_getElem?_getD, List.getElem?_eq_getElem hi] at h1
  rw [List.getD_eq_getElem?_getD, List.getElem?_eq_getElem hj, ← he]
  exact h1
theorem den_pos {l : List UInt8} {e d : Nat} (h : NE l (e + 1) false d) (hd : e + 1 < d) (hl : d = l.length) : decV (l.drop (e + 1)) ≠ 0 := by
  rcases h with ⟨_, _, h3⟩ | ⟨h1, _, _, h4, _⟩
  · simp at h3; omega
  · have hp := decV_pos' (t := l.drop (e + 1)) (by intro e'; have := congrArg List.length e'; simp at this; omega) (by rw [bt_drop]; exact h4 _ (by omega) (by omega)) (by rw [bt_drop]; exact fun h => h1 ⟨by omega, h⟩)
    omega
end Go.Proofs.YtaplbadcpbollaaGreatDoor
