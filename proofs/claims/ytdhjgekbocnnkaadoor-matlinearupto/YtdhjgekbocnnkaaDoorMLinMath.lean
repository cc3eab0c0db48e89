/-
  Sums of rows are linear; products go over one another; turned twice is the same.
-/
import Derived.Test.YtdhjgekbocnnkaaDoorSetM
namespace Go.Proofs.YtdhjgekbocnnkaaDoor
open Go Go.RowKit Nt
set_option linter.unusedSimpArgs false
set_option linter.unusedVariables false
set_option maxRecDepth 20000

theorem wei_nil_l (B : List (List Int)) (j : Nat) : wei [] B j = 0 := by simp [wei, sumZ]
theorem wei_nil_r (xs : List Int) (j : Nat) : wei xs [] j = 0 := by simp [wei, sumZ]
theorem wei_cons (x : Int) (xs : List Int) (b : List Int) (B : List (List Int)) (j : Nat) : wei (x :: xs) (b :: B) j = x * b.getD j 0 + wei xs B j := by simp [wei, sumZ]
theorem wei_add : ∀ (u v : List Int) (C : List (List Int)) (j : Nat), u.length = v.length → wei (List.zipWith (· + ·) u v) C j = wei u C j + wei v C j
  | [], [], C, j, _ => by simp [wei_nil_l]
  | [], _ :: _, _, _, h => by simp at h
  | _ :: _, [], _, _, h => by simp at h
  | a :: u, b :: v, [], j, h => by simp [wei_nil_r]
  | a :: u, b :: v, c :: C, j, h => by
    rw [List.zipWith_cons_cons, wei_cons, wei_cons, wei_cons, wei_add u v C j (by simpa using h), Int.add_mul]
    omega
theorem wei_mul : ∀ (k : Int) (u : List Int) (C : List (List Int)) (j : Nat), wei (u.map (fun a => k * a)) C j = k * wei u C j
  | k, [], C, j => by simp [wei_nil_l]
  | k, a :: u, [], j => by simp [wei_nil_r]
  | k, a :: u, c :: C, j => by
    rw [List.map_cons, wei_cons, wei_cons, wei_mul k u C j, Int.mul_add, Int.mul_assoc]
theorem wei_zeros : ∀ (x : Nat) (C : List (List Int)) (j : Nat), wei (List.replicate x 0) C j = 0
  | 0, C, j => wei_nil_l C j
  | x + 1, [], j => wei_nil_r _ j
  | x + 1, c :: C, j => by rw [List.replicate_succ, wei_cons, wei_zeros x C j]; omega
theorem comb_nil_l (B : List (List Int)) (x : Nat) : combZ [] B x = List.replicate x 0 := by
  unfold combZ
  simp only [wei_nil_l]
  rw [List.map_const', List.length_range]
theorem comb_nil_r (xs : List Int) (x : Nat) : combZ xs [] x = List.replicate x 0 := by
  unfold combZ
  simp only [wei_nil_r]
  rw [List.map_const', List.length_range]
theorem comb_len (xs : List Int) (B : List (List Int)) (x : Nat) : (combZ xs B x).length = x := by simp [combZ]
theorem comb_at {xs : List Int} {B : List (List Int)} {x j : Nat} (h : j < x) : (combZ xs B x).getD j 0 = wei xs B j := by
  rw [List.getD_eq_getElem?_getD, combZ, List.getElem?_map, List.getElem?_range h]
  rfl
theorem comb_cons {r : Int} {rs b : List Int} {bs : List (List Int)} {x : Nat} (hb : b.length = x) : combZ (r :: rs) (b :: bs) x = List.zipWith (· + ·) (b.map (fun a => r * a)) (combZ rs bs x) := by
  apply List.ext_getElem (by simp [combZ, hb])
  intro i h1 h2
  have hi : i < x := by simpa [combZ] using h1
  simp only [combZ, List.getElem_map, List.getElem_range, List.getElem_zipWith, wei_cons]
  rw [List.getD_eq_getElem?_getD, List.getElem?_eq_getElem (by omega : i < b.length)]
  rfl
/-- A sum of rows of a product. -/
theorem wei_assoc {C : List (List Int)} {x y j : Nat} (hj : j < y) : ∀ (rs : List Int) (B : List (List Int)), Reg B x → wei (combZ rs B x) C j = wei rs (B.map (fun b => combZ b C y)) j
  | [], B, _ => by rw [comb_nil_l, wei_zeros, wei_nil_l]
  | r :: rs, [], _ => by rw [comb_nil_r, wei_zeros, List.map_nil, wei_nil_r]
  | r :: rs, b :: B, hR => by
    have hb : b.length = x := hR 0 b rfl
    have hR' : Reg B x := fun i s hs => hR (i + 1) s (by simpa using hs)
    rw [comb_cons hb, wei_add _ _ _ _ (by simp [comb_len, hb]), wei_mul, wei_assoc hj rs B hR', List.map_cons, wei_cons, comb_at hj]
theorem comb_assoc {C : List (List Int)} {x y : Nat} (rs : List Int) (B : List (List Int)) (hR : Reg B x) : combZ (combZ rs B x) C y = combZ rs (B.map (fun b => combZ b C y)) y := by
  unfold combZ
  apply List.map_congr_left
  intro j hj
  exact wei_assoc (by simpa using hj) rs B hR
theorem prod_assoc {A B C : List (List Int)} {x y : Nat} (hR : Reg B x) : (A.map (fun r => combZ r B x)).map (fun r => combZ r C y) = A.map (fun r => combZ r (B.map (fun b => combZ b C y)) y) := by
  rw [List.map_map]
  apply List.map_congr_left
  intro r _
  exact comb_assoc r B hR
theorem reg_comb {A B : List (List Int)} {x : Nat} : Reg (A.map (fun r => combZ r B x)) x := fun i r hr => by
  obtain ⟨s, _, rfl⟩ := map_get hr
  exact comb_len _ _ _
theorem reg_turn {A : List (List Int)} {x n : Nat} (h : A.length = n) : Reg (turnZ A x) n := fun i r hr => by
  obtain ⟨s, _, rfl⟩ := map_get hr
  rw [List.length_map, h]
theorem turn_turn {A : List (List Int)} {n x : Nat} (hn : A.length = n) (hR : Reg A x) : turnZ (turnZ A x) n = A := by
  unfold turnZ
  apply List.ext_getElem (by simp [hn])
  intro i h1 h2
  have hr := hR i _ (List.getElem?_eq_getElem h2)
  rw [List.getElem_map, List.getElem_range, List.map_map]
  apply List.ext_getElem (by simp [hr])
  intro j h3 h4
  simp only [List.getElem_map, List.getElem_range, Function.comp]
  rw [List.getD_eq_getElem?_getD, List.getElem?_map, List.getElem?_eq_getElem h2]
  show (A[i].getD j 0) = _
  rw [List.getD_eq_getElem?_getD, List.getElem?_eq_getElem h4]
  rfl
theorem reg_of {A : List (List Int)} {x : Nat} (h : Reg A x) : reg A = true := by
  cases A with
  | nil => rfl
  | cons a r =>
    have h0 : a.length = x := h 0 a rfl
    unfold reg
    rw [List.all_eq_true]
    intro s hs
    obtain ⟨i, hi, rfl⟩ := List.mem_iff_getElem.1 hs
    have := h i _ (List.getElem?_eq_getElem hi)
    show ((a :: r)[i].length == wd (a :: r)) = true
    rw [this]
    show (x == a.length) = true
    rw [h0]
    simp
theorem wd_of {A : List (List Int)} {x : Nat} (h : Reg A x) (hp : 0 < A.length) : wd A = x := by
  cases A with
  | nil => simp at hp
  | cons a r => exact h 0 a rfl
end Go.Proofs.YtdhjgekbocnnkaaDoor
