/-
  zint's quotients: Floor, Near, Exact, whole.
-/
import Derived.Test.YtoplejeljmpcpaaDoorRFloor
import Derived.Test.YtoplejeljmpcpaaDoorZFloorWalk
namespace Go.Proofs.YtoplejeljmpcpaaDoor
open Go Go.RowKit Nt
set_option linter.unusedSimpArgs false
set_option linter.unusedVariables false
set_option maxRecDepth 20000


theorem zv_ne {t : Bool} {ys : List Nat} {B : Int} (e : sg t (val ys) = B) (hB : B ≠ 0) : val ys ≠ 0 := fun h => hB (by rw [← e, h]; cases t <;> rfl)
theorem zv_eq {t : Bool} {ys : List Nat} {B : Int} (e : sg t (val ys) = B) (hB : B = 0) : val ys = 0 := by
  rw [hB] at e
  have := sg_abs t (val ys)
  rw [e] at this
  simpa using this.symm
theorem zv_abs {t : Bool} {ys : List Nat} {B : Int} (e : sg t (val ys) = B) : val ys = B.natAbs := by rw [← e, sg_abs]
theorem rm_bounds {A B : Int} (hB : B ≠ 0) : A = fl A B * B + rm A B ∧ (0 < B → 0 ≤ rm A B ∧ rm A B < B) ∧ (B < 0 → B < rm A B ∧ rm A B ≤ 0) := by
  unfold rm
  refine ⟨by omega, fun hp => ?_, fun hp => ?_⟩
  · unfold fl
    rw [if_pos hp]
    have h1 := Int.emod_nonneg A (by omega : B ≠ 0)
    have h2 := Int.emod_lt_of_pos A hp
    have h3 := Int.mul_ediv_add_emod A B
    rw [Int.mul_comm] at h3
    omega
  · unfold fl
    rw [if_neg (by omega)]
    have h1 := Int.emod_nonneg (-A) (by omega : -B ≠ 0)
    have h2 := Int.emod_lt_of_pos (-A) (by omega : 0 < -B)
    have h3 := Int.mul_ediv_add_emod (-A) (-B)
    rw [Int.mul_comm, Int.mul_neg] at h3
    omega
/-- The nearest whole number. -/
def nr (A B : Int) : Int := fl (2 * A + B) (2 * B)
theorem near_up {A B : Int} (hB : B ≠ 0) (h : B.natAbs ≤ 2 * (rm A B).natAbs) : fl A B + 1 = nr A B := by
  obtain ⟨e, h1, h2⟩ := rm_bounds (A := A) hB
  refine (fl_unique (r := 2 * rm A B - B) (by omega) ?_ (fun hp => ?_) (fun hp => ?_)).1.symm
  · rw [Int.add_mul]
    have : fl A B * (2 * B) = 2 * (fl A B * B) := by rw [← Int.mul_assoc, Int.mul_comm (fl A B) 2, Int.mul_assoc]
    omega
  · have := h1 (by omega); omega
  · have := h2 (by omega); omega
theorem near_down {A B : Int} (hB : B ≠ 0) (h : 2 * (rm A B).natAbs < B.natAbs) : fl A B = nr A B := by
  obtain ⟨e, h1, h2⟩ := rm_bounds (A := A) hB
  refine (fl_unique (r := 2 * rm A B + B) (by omega) ?_ (fun hp => ?_) (fun hp => ?_)).1.symm
  · have : fl A B * (2 * B) = 2 * (fl A B * B) := by rw [← Int.mul_assoc, Int.mul_comm (fl A B) 2, Int.mul_assoc]
    omega
  · have := h1 (by omega); omega
  · have := h2 (by omega); omega
theorem cmpN_ge0 {x y : Nat} (h : y ≤ x) : 0 ≤ cmpN x y := by unfold cmpN; split; omega; split <;> omega
theorem cmpN_lt0 {x y : Nat} (h : x < y) : cmpN x y < 0 := by unfold cmpN; rw [if_pos h]; omega

theorem fl_abs {A B : Int} (hB : B ≠ 0) : (fl A B).natAbs ≤ A.natAbs + 1 := by
  obtain ⟨e, h1, h2⟩ := rm_bounds (A := A) hB
  have key : (fl A B * B).natAbs ≤ A.natAbs + (rm A B).natAbs := by omega
  have hr : (rm A B).natAbs < B.natAbs := by
    rcases Int.lt_or_gt_of_ne hB with hp | hp
    · have := h2 hp; omega
    · have := h1 hp; omega
  rw [Int.natAbs_mul] at key
  obtain ⟨f, hf⟩ : ∃ f, (fl A B).natAbs = f := ⟨_, rfl⟩
  obtain ⟨b, hb⟩ : ∃ b, B.natAbs = b := ⟨_, rfl⟩
  rw [hf, hb] at key
  rw [hb] at hr
  rw [hf]
  apply Classical.byContradiction
  intro hc
  obtain ⟨k, rfl⟩ : ∃ k, f = A.natAbs + 2 + k := ⟨f - (A.natAbs + 2), by omega⟩
  have h3 : (A.natAbs + 2 + k) * b = A.natAbs * b + 2 * b + k * b := by rw [Nat.add_mul, Nat.add_mul]
  have h4 : A.natAbs * 1 ≤ A.natAbs * b := Nat.mul_le_mul_left _ (by omega)
  omega
theorem fl_len {A B : Int} {n : Nat} (hB : B ≠ 0) (h : (digs A.natAbs).length ≤ n) : (digs (fl A B).natAbs).length ≤ n + 1 := by
  refine Nat.le_trans (digs_length_mono (fl_abs hB)) ?_
  by_cases hn : n = 0
  · subst hn
    have : A.natAbs = 0 := (digs_length_zero _).1 (by omega)
    rw [this]
    exact digs_length_le (by omega)
  · refine digs_add_len h (Nat.le_trans (digs_length_le (k := 1) (by omega)) (by omega))

theorem rm_zero {s t : Bool} {x y : Nat} (hy : y ≠ 0) : rm (sg s x) (sg t y) = 0 ↔ x % y = 0 := by
  by_cases h0 : x % y = 0
  · rw [(floor_plain s t x y hy (Or.inr h0)).2, h0]
    constructor
    · exact fun _ => rfl
    · intro _; cases t <;> rfl
  · have hlt := Nat.mod_lt x (Nat.pos_of_ne_zero hy)
    have : rm (sg s x) (sg t y) ≠ 0 := by
      by_cases hst : s = t
      · rw [(floor_plain s t x y hy (Or.inl hst)).2]
        intro e
        have := sg_abs t (x % y)
        rw [e] at this
        exact h0 (by simpa using this.symm)
      · rw [(floor_up s t x y hy hst h0).2]
        intro e
        have := sg_abs t (y - x % y)
        rw [e] at this
        simp at this
        omega
    exact ⟨fun e => absurd e this, fun e => absurd e h0⟩

end Go.Proofs.YtoplejeljmpcpaaDoor
