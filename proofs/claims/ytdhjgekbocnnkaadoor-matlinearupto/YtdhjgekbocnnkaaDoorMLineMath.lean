/-
  The order of vectors is one; a vector and its negative are upright alike.
-/
import Derived.Test.YtdhjgekbocnnkaaDoorMOrd
namespace Go.Proofs.YtdhjgekbocnnkaaDoor
open Go Go.RowKit Nt
set_option linter.unusedSimpArgs false
set_option linter.unusedVariables false
set_option maxRecDepth 20000

theorem sign_anti (a b : Int) : (a - b).sign = - (b - a).sign := by
  rw [← Int.sign_neg]
  congr 1
  omega
theorem ord_anti : ∀ (As Bs : List Int), ordZ As Bs = - ordZ Bs As
  | [], [] => by simp [ordZ]
  | [], _ :: _ => by simp [ordZ]
  | _ :: _, [] => by simp [ordZ]
  | a :: As, b :: Bs => by
    have h1 := sign_anti a b
    have ih := ord_anti As Bs
    simp only [ordZ]
    by_cases h : (a - b).sign = 0
    · rw [if_pos h, if_pos (by omega)]
      exact ih
    · rw [if_neg h, if_neg (by omega)]
      exact h1
theorem ord_refl : ∀ (As : List Int), ordZ As As = 0 := fun As => by
  have := ord_anti As As
  omega
theorem sign_lt {a : Int} : a.sign < 0 ↔ a < 0 := Int.sign_neg_iff
theorem ord_trans : ∀ (As Bs Cs : List Int), ordZ As Bs < 0 → ordZ Bs Cs < 0 → ordZ As Cs < 0
  | [], [], _, h, _ => by simp [ordZ] at h
  | _ :: _, [], _, h, _ => by simp [ordZ] at h
  | _, _ :: _, [], _, h => by simp [ordZ] at h
  | [], _ :: _, _ :: _, _, _ => by simp [ordZ]
  | a :: As, b :: Bs, c :: Cs, h1, h2 => by
    have ih := ord_trans As Bs Cs
    simp only [ordZ] at h1 h2 ⊢
    have e1 : (a - b).sign = 0 ↔ a - b = 0 := Int.sign_eq_zero_iff_zero
    have e2 : (b - c).sign = 0 ↔ b - c = 0 := Int.sign_eq_zero_iff_zero
    have e3 : (a - c).sign = 0 ↔ a - c = 0 := Int.sign_eq_zero_iff_zero
    have l1 : (a - b).sign < 0 ↔ a - b < 0 := sign_lt
    have l2 : (b - c).sign < 0 ↔ b - c < 0 := sign_lt
    have l3 : (a - c).sign < 0 ↔ a - c < 0 := sign_lt
    by_cases h : (a - b).sign = 0
    · rw [if_pos h] at h1
      by_cases h' : (b - c).sign = 0
      · rw [if_pos h'] at h2
        rw [if_pos (by omega)]
        exact ih h1 h2
      · rw [if_neg h'] at h2
        rw [if_neg (by omega)]
        omega
    · rw [if_neg h] at h1
      by_cases h' : (b - c).sign = 0
      · rw [if_neg (by omega)]
        omega
      · rw [if_neg h'] at h2
        rw [if_neg (by omega)]
        omega
theorem lead_neg (As : List Int) : leadZ (As.map (fun a => -1 * a)) = leadZ As := by
  rcases lead_cases As with ⟨h1, h2⟩ | ⟨k, a, h1, h2, h3, h4⟩
  · rw [h1]
    exact lead_none (fun j x hx => by
      obtain ⟨y, hy, rfl⟩ := map_get hx
      have := h2 j y hy
      omega)
  · rw [h1]
    exact lead_at (fun j x hj hx => by
      obtain ⟨y, hy, rfl⟩ := map_get hx
      have := h4 j y hj hy
      omega) (map_get' (fun a => -1 * a) h2) (by omega)
theorem up_neg (As : List Int) : upZ (As.map (fun a => -1 * a)) = upZ As := by
  rcases lead_cases As with ⟨h1, h2⟩ | ⟨k, a, h1, h2, h3, h4⟩
  · have e1 := upK_none h2
    have e2 := upK_none (As := As.map (fun a => -1 * a)) (fun j x hx => by
      obtain ⟨y, hy, rfl⟩ := map_get hx
      have := h2 j y hy
      omega)
    unfold upZ
    rw [e1, e2, List.map_map]
    apply List.map_congr_left
    intro x hx
    obtain ⟨i, hi, rfl⟩ := List.mem_iff_getElem.1 hx
    have := h2 i _ (List.getElem?_eq_getElem hi)
    simp only [Function.comp]
    omega
  · have e1 := upK_at h1 h2
    have e2 := upK_at ((lead_neg As).trans h1) (map_get' (fun a => -1 * a) h2)
    have l1 : a.sign < 0 ↔ a < 0 := sign_lt
    have l2 : (-1 * a).sign < 0 ↔ -1 * a < 0 := sign_lt
    unfold upZ
    rw [e1, e2, List.map_map]
    apply List.map_congr_left
    intro x hx
    simp only [Function.comp]
    by_cases h : a.sign < 0
    · rw [if_pos h, if_neg (by omega)]
      omega
    · rw [if_neg h, if_pos (by omega)]
      omega
theorem up_pos {As : List Int} {k : Nat} (h : leadZ As = k) : ∃ x, (upZ As)[k]? = some x ∧ 0 < x := by
  rcases lead_cases As with ⟨h1, h2⟩ | ⟨k', a, h1, h2, h3, h4⟩
  · omega
  · obtain rfl : k' = k := by omega
    have e1 := upK_at h1 h2
    have l1 : a.sign < 0 ↔ a < 0 := sign_lt
    refine ⟨upK As * a, map_get' (fun a => upK As * a) h2, ?_⟩
    rw [e1]
    by_cases hs : a.sign < 0
    · rw [if_pos hs]
      omega
    · rw [if_neg hs]
      omega
end Go.Proofs.YtdhjgekbocnnkaaDoor
