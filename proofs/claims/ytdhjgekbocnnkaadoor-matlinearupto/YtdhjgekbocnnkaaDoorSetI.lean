import Derived.Test.YtdhjgekbocnnkaaDoorSetM
import Derived.Test.YtdhjgekbocnnkaaDoorMLineMath
import Derived.Test.YtdhjgekbocnnkaaDoorMMat
/-
  Sums of rows are linear; products go over one another; turned twice is the same.
-/
namespace Go.Proofs.YtdhjgekbocnnkaaDoor
open Go Go.RowKit Nt
set_option linter.unusedSimpArgs false
set_option linter.unusedVariables false
set_option maxRecDepth 20000

theorem wei_nil_l (B : List (List Int)) (j : Nat) : wei [] B j = 0 := by simp [wei, sumZ]
theorem wei_nil_r (xs : List Int) (j : Nat) : wei xs [] j = 0 := by simp [wei, sumZ]
theorem wei_cons (x : Int) (xs : List Int) (b : List Int) (B : List (List Int)) (j : Nat) : wei (x :: xs) (b :: B) j = x * b.getD j 0 + wei xs B j := by simp [wei, sumZ]
theorem wei_add : ∀ (u v : List Int) (C : List (List Int)) (j : Nat), u.length = v.length → wei (List.zipWith (· + ·) u v) C j = wei u C j + wei v C j
  | [], [], C, j, _ => by simp [wei_nil_l]
  | [], _ :: _, _, _, h => by simp at h
  | _ :: _, [], _, _, h => by simp at h
  | a :: u, b :: v, [], j, h => by simp [wei_nil_r]
  | a :: u, b :: v, c :: C, j, h => by
    rw [List.zipWith_cons_cons, wei_cons, wei_cons, wei_cons, wei_add u v C j (by simpa using h), Int.add_mul]
    omega
theorem wei_mul : ∀ (k : Int) (u : List Int) (C : List (List Int)) (j : Nat), wei (u.map (fun a => k * a)) C j = k * wei u C j
  | k, [], C, j => by simp [wei_nil_l]
  | k, a :: u, [], j => by simp [wei_nil_r]
  | k, a :: u, c :: C, j => by
    rw [List.map_cons, wei_cons, wei_cons, wei_mul k u C j, Int.mul_add, Int.mul_assoc]
theorem wei_zeros : ∀ (x : Nat) (C : List (List Int)) (j : Nat), wei (List.replicate x 0) C j = 0
  | 0, C, j => wei_nil_l C j
  | x + 1, [], j => wei_nil_r _ j
  | x + 1, c :: C, j => by rw [List.replicate_succ, wei_cons, wei_zeros x C j]; omega
theorem comb_nil_l (B : List (List Int)) (x : Nat) : combZ [] B x = List.replicate x 0 := by
  unfold combZ
  simp only [wei_nil_l]
  rw [List.map_const', List.length_range]
theorem comb_nil_r (xs : List Int) (x : Nat) : combZ xs [] x = List.replicate x 0 := by
  unfold combZ
  simp only [wei_nil_r]
  rw [List.map_const', List.length_range]
theorem comb_len (xs : List Int) (B : List (List Int)) (x : Nat) : (combZ xs B x).length = x := by simp [combZ]
theorem comb_at {xs : List Int} {B : List (List Int)} {x j : Nat} (h : j < x) : (combZ xs B x).getD j 0 = wei xs B j := by
  rw [List.getD_eq_getElem?_getD, combZ, List.getElem?_map, List.getElem?_range h]
  rfl
theorem comb_cons {r : Int} {rs b : List Int} {bs : List (List Int)} {x : Nat} (hb : b.length = x) : combZ (r :: rs) (b :: bs) x = List.zipWith (· + ·) (b.map (fun a => r * a)) (combZ rs bs x) := by
  apply List.ext_getElem (by simp [combZ, hb])
  intro i h1 h2
  have hi : i < x := by simpa [combZ] using h1
  simp only [combZ, List.getElem_map, List.getElem_range, List.getElem_zipWith, wei_cons]
  rw [List.getD_eq_getElem?_getD, List.getElem?_eq_getElem (by omega : i < b.length)]
  rfl
/-- A sum of rows of a product. -/
theorem wei_assoc {C : List (List Int)} {x y j : Nat} (hj : j < y) : ∀ (rs : List Int) (B : List (List Int)), Reg B x → wei (combZ rs B x) C j = wei rs (B.map (fun b => combZ b C y)) j
  | [], B, _ => by rw [comb_nil_l, wei_zeros, wei_nil_l]
  | r :: rs, [], _ => by rw [comb_nil_r, wei_zeros, List.map_nil, wei_nil_r]
  | r :: rs, b :: B, hR => by
    have hb : b.length = x := hR 0 b rfl
    have hR' : Reg B x := fun i s hs => hR (i + 1) s (by simpa using hs)
    rw [comb_cons hb, wei_add _ _ _ _ (by simp [comb_len, hb]), wei_mul, wei_assoc hj rs B hR', List.map_cons, wei_cons, comb_at hj]
theorem comb_assoc {C : List (List Int)} {x y : Nat} (rs : List Int) (B : List (List Int)) (hR : Reg B x) : combZ (combZ rs B x) C y = combZ rs (B.map (fun b => combZ b C y)) y := by
  unfold combZ
  apply List.map_congr_left
  intro j hj
  exact wei_assoc (by simpa using hj) rs B hR
theorem prod_assoc {A B C : List (List Int)} {x y : Nat} (hR : Reg B x) : (A.map (fun r => combZ r B x)).map (fun r => combZ r C y) = A.map (fun r => combZ r (B.map (fun b => combZ b C y)) y) := by
  rw [List.map_map]
  apply List.map_congr_left
  intro r _
  exact comb_assoc r B hR
theorem reg_comb {A B : List (List Int)} {x : Nat} : Reg (A.map (fun r => combZ r B x)) x := fun i r hr => by
  obtain ⟨s, _, rfl⟩ := map_get hr
  exact comb_len _ _ _
theorem reg_turn {A : List (List Int)} {x n : Nat} (h : A.length = n) : Reg (turnZ A x) n := fun i r hr => by
  obtain ⟨s, _, rfl⟩ := map_get hr
  rw [List.length_map, h]
theorem turn_turn {A : List (List Int)} {n x : Nat} (hn : A.length = n) (hR : Reg A x) : turnZ (turnZ A x) n = A := by
  unfold turnZ
  apply List.ext_getElem (by simp [hn])
  intro i h1 h2
  have hr := hR i _ (List.getElem?_eq_getElem h2)
  rw [List.getElem_map, List.getElem_range, List.map_map]
  apply List.ext_getElem (by simp [hr])
  intro j h3 h4
  simp only [List.getElem_map, List.getElem_range, Function.comp]
  rw [List.getD_eq_getElem?_getD, List.getElem?_map, List.getElem?_eq_getElem h2]
  show (A[i].getD j 0) = _
  rw [List.getD_eq_getElem?_getD, List.getElem?_eq_getElem h4]
  rfl
theorem reg_of {A : List (List Int)} {x : Nat} (h : Reg A x) : reg A = true := by
  cases A with
  | nil => rfl
  | cons a r =>
    have h0 : a.length = x := h 0 a rfl
    unfold reg
    rw [List.all_eq_true]
    intro s hs
    obtain ⟨i, hi, rfl⟩ := List.mem_iff_getElem.1 hs
    have := h i _ (List.getElem?_eq_getElem hi)
    show ((a :: r)[i].length == wd (a :: r)) = true
    rw [this]
    show (x == a.length) = true
    rw [h0]
    simp
theorem wd_of {A : List (List Int)} {x : Nat} (h : Reg A x) (hp : 0 < A.length) : wd A = x := by
  cases A with
  | nil => simp at hp
  | cons a r => exact h 0 a rfl
end Go.Proofs.YtdhjgekbocnnkaaDoor

/-
  Plain mathematics of MatLinear: how long the numbers are, and what the laws come to.
-/
namespace Go.Proofs.YtdhjgekbocnnkaaDoor
open Go Go.RowKit Nt
set_option linter.unusedSimpArgs false
set_option linter.unusedVariables false
set_option maxRecDepth 20000

theorem wd_le {B : List (List Int)} {L : Nat} (h : Ml B L) : wd B ≤ L := by
  cases B with
  | nil => simp [wd]
  | cons b r => exact h 0 b rfl
theorem okP_parts {A B : List (List Int)} (h : okP A B = true) : reg A = true ∧ reg B = true ∧ (A.length = 0 ∨ wd A = B.length) := by
  unfold okP at h
  simp only [Bool.and_eq_true, Bool.or_eq_true, beq_iff_eq] at h
  exact ⟨h.1, h.2.1, h.2.2⟩
theorem okP_of {A B : List (List Int)} (h1 : reg A = true) (h2 : reg B = true) (h3 : wd A = B.length) : okP A B = true := by
  unfold okP
  simp only [Bool.and_eq_true, Bool.or_eq_true, beq_iff_eq]
  exact ⟨h1, h2, Or.inr h3⟩
theorem prodE_y {A B : List (List Int)} (h : okP A B = true) : prodE A B = A.map (fun r => combZ r B (wd B)) := if_pos h
theorem prodN_le {A B : List (List Int)} {n : Nat} (h : A.length ≤ n) : prodN A B ≤ n := by
  unfold prodN; split <;> omega
theorem combN_le {xs : List Int} {B : List (List Int)} {L : Nat} (h : Ml B L) : combN xs B ≤ L := by
  unfold combN; split
  · exact wd_le h
  · omega
theorem turnN_le {B : List (List Int)} {L : Nat} (h : Ml B L) : turnN B ≤ L := by
  unfold turnN; split
  · exact wd_le h
  · omega
theorem ml_prod {A B : List (List Int)} {L : Nat} (h : Ml B L) : Ml (prodE A B) L := by
  unfold prodE
  split
  · intro i r hr
    obtain ⟨a, _, rfl⟩ := map_get hr
    rw [comb_len]
    exact wd_le h
  · intro i r hr
    simp at hr
theorem ml_turn {B : List (List Int)} {n : Nat} (h : B.length ≤ n) : Ml (turnE B) n := by
  unfold turnE
  split
  · intro i r hr
    obtain ⟨a, _, rfl⟩ := map_get hr
    simpa using h
  · intro i r hr
    simp at hr
theorem dl_combZ {xs : List Int} {B : List (List Int)} {k k' L : Nat} (h : Dl xs k) (h' : Mdl B k') (hR : reg B = true) (hl : xs.length ≤ L) : Dl (combZ xs B (wd B)) (k + k' + L) := fun i z hz => by
  obtain ⟨j, hj, rfl⟩ := map_get hz
  have hlt : j < wd B := List.mem_range.1 (List.mem_of_getElem? hj)
  have := wei_len h h' (reg_y hR) hlt rfl
  omega
theorem dl_combE {xs : List Int} {B : List (List Int)} {k k' L : Nat} (h : Dl xs k) (h' : Mdl B k') (hl : xs.length ≤ L) : Dl (combE xs B) (k + k' + L) := by
  unfold combE
  split
  · rename_i e
    unfold okC at e
    simp only [Bool.and_eq_true] at e
    exact dl_combZ h h' e.1 hl
  · intro i z hz
    simp at hz
theorem mdl_prod {A B : List (List Int)} {k k' L : Nat} (h : Mdl A k) (h' : Mdl B k') (hl : Ml A L) : Mdl (prodE A B) (k + k' + L) := by
  unfold prodE
  split
  · rename_i e
    intro i r hr
    obtain ⟨a, ha, rfl⟩ := map_get hr
    exact dl_combZ (h i a ha) h' (okP_parts e).2.1 (hl i a ha)
  · intro i r hr
    simp at hr
theorem mdl_turn {B : List (List Int)} {k : Nat} (h : Mdl B k) : Mdl (turnE B) k := by
  unfold turnE
  split
  · intro i r hr
    obtain ⟨j, hj, rfl⟩ := map_get hr
    intro i2 z hz
    obtain ⟨b, hb, rfl⟩ := map_get hz
    rw [List.getD_eq_getElem?_getD]
    cases e : b[j]? with
    | none => simp [digs_zero]
    | some y => exact h i2 b hb j y e
  · intro i r hr
    simp at hr
def xsF (n : Nat) : List Int := (List.range n).map (fun i => ((i : Nat) : Int) * ((i : Nat) : Int) - 3)
theorem xsF_len (n : Nat) : (xsF n).length = n := by simp [xsF]
theorem xsF_at {n k : Nat} (h : k < n) : (xsF n)[k]? = some (((k : Nat) : Int) * ((k : Nat) : Int) - 3) := by
  unfold xsF
  rw [List.getElem?_map, List.getElem?_range h]
  rfl
theorem sq_le {k : Nat} (h : k ≤ 1048576) : 0 ≤ ((k : Nat) : Int) * ((k : Nat) : Int) ∧ ((k : Nat) : Int) * ((k : Nat) : Int) ≤ 1099511627776 := by
  have : k * k ≤ 1048576 * 1048576 := Nat.mul_le_mul h h
  have e : ((k * k : Nat) : Int) = ((k : Nat) : Int) * ((k : Nat) : Int) := by simp
  omega
theorem xsF_dl {n : Nat} (h : n ≤ 1048576) : Dl (xsF n) 2 := fun i z hz => by
  obtain ⟨j, hj, rfl⟩ := map_get hz
  have hlt : j < n := List.mem_range.1 (List.mem_of_getElem? hj)
  have := sq_le (k := j) (by omega)
  refine digs_length_le ?_
  show _ < 18446744073709551616
  omega

/-! What the laws come to. -/
theorem lin_ab {A B : List (List Int)} (h : okP A B = true) (hp : 0 < A.length) : Reg (prodE A B) (wd B) ∧ (prodE A B).length = A.length ∧ wd (prodE A B) = wd B ∧ reg (prodE A B) = true := by
  rw [prodE_y h]
  have h1 : Reg (A.map (fun r => combZ r B (wd B))) (wd B) := reg_comb
  exact ⟨h1, by simp, wd_of h1 (by simpa using hp), reg_of h1⟩
theorem lin_assoc {A B C : List (List Int)} (h : okP A B = true) (hp : 0 < A.length) (h1 : okP (prodE A B) C = true) (h2 : okP B C = true) : okP A (prodE B C) = true ∧ prodE (prodE A B) C = prodE A (prodE B C) := by
  obtain ⟨a1, a2, a3⟩ := okP_parts h
  obtain ⟨r1, r2, r3, r4⟩ := lin_ab h hp
  obtain ⟨b1, b2, b3⟩ := okP_parts h1
  have hBC : prodE B C = B.map (fun r => combZ r C (wd C)) := prodE_y h2
  have hR : Reg (B.map (fun r => combZ r C (wd C))) (wd C) := reg_comb
  have hAl : wd A = B.length := by rcases a3 with e | e <;> omega
  have ho : okP A (prodE B C) = true := okP_of a1 (by rw [hBC]; exact reg_of hR) (by rw [hBC, List.length_map]; exact hAl)
  refine ⟨ho, ?_⟩
  rw [prodE_y h1, prodE_y ho, prodE_y h, hBC, prod_assoc (reg_y a2)]
  have hw : wd (B.map (fun r => combZ r C (wd C))) = wd C := by
    by_cases e : 0 < B.length
    · exact wd_of hR (by simpa using e)
    · have eB : B = [] := List.length_eq_zero_iff.1 (by omega)
      have e0 : C.length = 0 := by
        rw [r2] at b3
        rcases b3 with e | e
        · omega
        · rw [r3, eB] at e
          simpa [wd] using e.symm
      have eC : C = [] := List.length_eq_zero_iff.1 e0
      rw [eB, eC]
      rfl
  rw [hw]
theorem lin_same {A B C : List (List Int)} (h : okP A B = true) (hp : 0 < A.length) (h1 : okP (prodE A B) C = true) (h2 : okP B C = true) : sameZ (prodE (prodE A B) C) (prodE A (prodE B C)) = true := by
  rw [(lin_assoc h hp h1 h2).2]
  exact sameZ_refl _
theorem okC_of {xs : List Int} {B : List (List Int)} (h : reg B = true) (h2 : xs.length = B.length) : okC xs B = true := by
  unfold okC
  simp [h, h2]
theorem combE_y {xs : List Int} {B : List (List Int)} (h : okC xs B = true) : combE xs B = combZ xs B (wd B) := if_pos h
theorem lin_comb {A B : List (List Int)} {xs : List Int} (h : okP A B = true) (hp : 0 < A.length) (hx : xs.length = A.length) :
    okC xs A = true ∧ okC (combE xs A) B = true ∧ okC xs (prodE A B) = true ∧ ordZ (combE xs (prodE A B)) (combE (combE xs A) B) = 0 := by
  obtain ⟨a1, a2, a3⟩ := okP_parts h
  obtain ⟨r1, r2, r3, r4⟩ := lin_ab h hp
  have hAl : wd A = B.length := by rcases a3 with e | e <;> omega
  have c1 : okC xs A = true := okC_of a1 hx
  have c2 : okC (combE xs A) B = true := okC_of a2 (by rw [combE_y c1, comb_len]; exact hAl)
  have c3 : okC xs (prodE A B) = true := okC_of r4 (by rw [r2]; exact hx)
  refine ⟨c1, c2, c3, ?_⟩
  rw [combE_y c2, combE_y c1, combE_y c3, r3, prodE_y h, comb_assoc xs A (reg_y a1)]
  exact ord_refl _
theorem lin_turn {B : List (List Int)} (h : reg B = true) (hp : 0 < turnN B) : reg (turnE B) = true ∧ sameZ (turnE (turnE B)) B = true := by
  have e1 : turnN B = wd B := if_pos h
  have e2 : turnE B = turnZ B (wd B) := if_pos h
  have hR : Reg (turnZ B (wd B)) B.length := reg_turn rfl
  have hr : reg (turnE B) = true := by rw [e2]; exact reg_of hR
  refine ⟨hr, ?_⟩
  have e3 : turnE (turnE B) = turnZ (turnE B) (wd (turnE B)) := if_pos hr
  have hl : 0 < (turnZ B (wd B)).length := by simp [turnZ]; omega
  rw [e3, e2, wd_of hR hl, turn_turn rfl (reg_y h)]
  exact sameZ_refl _
theorem errB_t {b : Bool} (h : b = true) : errB b = 0 := by rw [h]; rfl
theorem errB_f {b : Bool} (h : b = false) : errB b ≠ 0 := by rw [h]; decide
end Go.Proofs.YtdhjgekbocnnkaaDoor
