/-
  Plain mathematics, no Go: numbers as lists of limbs of 32 bits, the lowest first; the one list without noughts at its end.
-/
namespace Go.Proofs.Ytgalppimdmjdcab.Nt

/-- What limbs are worth. -/
def val : List Nat → Nat
  | [] => 0
  | x :: r => x + 4294967296 * val r

def digsF : Nat → Nat → List Nat
  | 0, _ => []
  | f + 1, n => if n = 0 then [] else n % 4294967296 :: digsF f (n / 4294967296)
/-- The limbs of a number, without noughts at the end. -/
def digs (n : Nat) : List Nat := digsF n n

/-- Each limb is below 2^32. -/
def Ok (xs : List Nat) : Prop := ∀ x ∈ xs, x < 4294967296

theorem Ok.nil : Ok [] := fun x h => by cases h
theorem Ok.cons {x : Nat} {r : List Nat} (h : x < 4294967296) (k : Ok r) : Ok (x :: r) := fun y hy => by
  rcases List.mem_cons.1 hy with rfl | h'
  · exact h
  · exact k y h'
theorem Ok.head {x : Nat} {r : List Nat} (h : Ok (x :: r)) : x < 4294967296 := h x (by simp)
theorem Ok.tail {x : Nat} {r : List Nat} (h : Ok (x :: r)) : Ok r := fun y hy => h y (by simp [hy])
theorem Ok.append {xs ys : List Nat} (h : Ok xs) (k : Ok ys) : Ok (xs ++ ys) := fun x hx => by
  rcases List.mem_append.1 hx with h' | h'
  · exact h x h'
  · exact k x h'
theorem Ok.left {xs ys : List Nat} (h : Ok (xs ++ ys)) : Ok xs := fun x hx => h x (by simp [hx])
theorem Ok.right {xs ys : List Nat} (h : Ok (xs ++ ys)) : Ok ys := fun x hx => h x (by simp [hx])
theorem Ok.take {xs : List Nat} (h : Ok xs) (k : Nat) : Ok (xs.take k) := fun x hx => h x (List.mem_of_mem_take hx)
theorem Ok.drop {xs : List Nat} (h : Ok xs) (k : Nat) : Ok (xs.drop k) := fun x hx => h x (List.mem_of_mem_drop hx)
theorem Ok.getD {xs : List Nat} (h : Ok xs) (i : Nat) : xs.getD i 0 < 4294967296 := by
  by_cases hi : i < xs.length
  · rw [List.getD_eq_getElem?_getD, List.getElem?_eq_getElem hi]
    exact h _ (List.getElem_mem hi)
  · rw [List.getD_eq_getElem?_getD, List.getElem?_eq_none (by omega)]
    simp
theorem Ok.replicate (k : Nat) : Ok (List.replicate k 0) := fun x hx => by
  rw [(List.mem_replicate.1 hx).2]; omega

theorem val_append (xs ys : List Nat) : val (xs ++ ys) = val xs + 4294967296 ^ xs.length * val ys := by
  induction xs with
  | nil => simp [val]
  | cons x r ih =>
    simp only [List.cons_append, val, ih, List.length_cons, Nat.pow_succ]
    rw [Nat.mul_add, Nat.mul_comm (4294967296 ^ r.length) 4294967296, Nat.mul_assoc]
    omega

theorem val_replicate (k : Nat) : val (List.replicate k 0) = 0 := by
  induction k with
  | zero => rfl
  | succ k ih => simp [List.replicate_succ, val, ih]

theorem val_one (x : Nat) : val [x] = x := by simp [val]

theorem val_lt {xs : List Nat} (h : Ok xs) : val xs < 4294967296 ^ xs.length := by
  induction xs with
  | nil => simp [val]
  | cons x r ih =>
    have h1 := h.head
    have h2 := ih h.tail
    simp only [val, List.length_cons, Nat.pow_succ]
    have h3 : 4294967296 * (val r + 1) ≤ 4294967296 * 4294967296 ^ r.length := Nat.mul_le_mul_left _ h2
    rw [Nat.mul_comm (4294967296 ^ r.length)]
    omega

theorem val_take_succ (xs : List Nat) (k : Nat) (h : k < xs.length) : val (xs.take (k + 1)) = val (xs.take k) + 4294967296 ^ k * xs.getD k 0 := by
  rw [List.take_succ_eq_append_getElem h, val_append, List.length_take, Nat.min_eq_left (by omega)]
  simp [val, h]

theorem val_split (xs : List Nat) (k : Nat) (h : k ≤ xs.length) : val xs = val (xs.take k) + 4294967296 ^ k * val (xs.drop k) := by
  have := val_append (xs.take k) (xs.drop k)
  rw [List.take_append_drop, List.length_take, Nat.min_eq_left h] at this
  exact this

theorem digsF_val : ∀ (f n : Nat), n ≤ f → val (digsF f n) = n
  | 0, n, h => by simp [digsF, val]; omega
  | f + 1, n, h => by
    unfold digsF
    by_cases h0 : n = 0
    · simp [h0, val]
    · simp only [h0, if_false, val]
      rw [digsF_val f (n / 4294967296) (by omega)]
      omega

theorem digsF_ok : ∀ (f n : Nat), Ok (digsF f n)
  | 0, n => Ok.nil
  | f + 1, n => by
    unfold digsF
    by_cases h0 : n = 0
    · simp only [h0, if_true]; exact Ok.nil
    · simp only [h0, if_false]; exact Ok.cons (Nat.mod_lt _ (by omega)) (digsF_ok f _)

theorem val_digs (n : Nat) : val (digs n) = n := digsF_val n n (Nat.le_refl _)
theorem ok_digs (n : Nat) : Ok (digs n) := digsF_ok n n
theorem digs_zero : digs 0 = [] := rfl

/-- A list of limbs is in one form: its last limb is not 0. -/
def Top (xs : List Nat) : Prop := xs = [] ∨ xs.getD (xs.length - 1) 0 ≠ 0

theorem Top.tail {x : Nat} {r : List Nat} (h : Top (x :: r)) : Top r := by
  rcases h with h | h
  · cases h
  · cases r with
    | nil => exact Or.inl rfl
    | cons y s => exact Or.inr (by simpa using h)

theorem val_pos {xs : List Nat} (h : Top xs) (hne : xs ≠ []) : 0 < val xs := by
  induction xs with
  | nil => exact absurd rfl hne
  | cons x r ih =>
    simp only [val]
    cases r with
    | nil =>
      rcases h with h | h
      · cases h
      · simp at h; omega
    | cons y s => have := ih h.tail (by simp); omega

theorem digsF_of : ∀ (f : Nat) (xs : List Nat), Ok xs → Top xs → val xs ≤ f → digsF f (val xs) = xs
  | 0, xs, _, ht, hf => by
    cases xs with
    | nil => rfl
    | cons x r => have := val_pos ht (by simp); omega
  | f + 1, xs, ho, ht, hf => by
    cases xs with
    | nil => rfl
    | cons x r =>
      have hp := val_pos ht (by simp)
      have hx := ho.head
      unfold digsF
      rw [if_neg (by omega)]
      have e1 : val (x :: r) % 4294967296 = x := by simp only [val]; omega
      have e2 : val (x :: r) / 4294967296 = val r := by simp only [val]; omega
      rw [e1, e2, digsF_of f r ho.tail ht.tail (by simp only [val] at hp hf; omega)]

theorem digs_of {xs : List Nat} (ho : Ok xs) (ht : Top xs) : digs (val xs) = xs := digsF_of _ _ ho ht (Nat.le_refl _)

theorem digs_eq {xs : List Nat} {n : Nat} (ho : Ok xs) (ht : Top xs) (h : val xs = n) : xs = digs n := by rw [← h, digs_of ho ht]

theorem digsF_top : ∀ (f n : Nat), n ≤ f → Top (digsF f n)
  | 0, n, h => Or.inl rfl
  | f + 1, n, h => by
    unfold digsF
    by_cases h0 : n = 0
    · simp only [h0, if_true]; exact Or.inl rfl
    · simp only [h0, if_false]
      have ih := digsF_top f (n / 4294967296) (by omega)
      cases hr : digsF f (n / 4294967296) with
      | nil =>
        right
        have hv := digsF_val f (n / 4294967296) (by omega)
        rw [hr] at hv
        simp only [val] at hv
        simp
        omega
      | cons y s =>
        rw [hr] at ih
        rcases ih with ih | ih
        · cases ih
        · exact Or.inr (by simpa using ih)
theorem top_digs (n : Nat) : Top (digs n) := digsF_top n n (Nat.le_refl _)

/-- What 'trim' finds: the place behind which there are noughts alone. -/
theorem take_digs {xs : List Nat} {k : Nat} (ho : Ok xs) (hk : k ≤ xs.length) (hz : ∀ j, k ≤ j → j < xs.length → xs.getD j 0 = 0) (ht : k = 0 ∨ xs.getD (k - 1) 0 ≠ 0) : xs.take k = digs (val xs) := by
  have hd : xs.drop k = List.replicate (xs.length - k) 0 := by
    apply List.ext_getElem (by simp)
    intro i h1 h2
    simp only [List.getElem_drop, List.getElem_replicate]
    have hi : k + i < xs.length := by simp at h1; omega
    have := hz (k + i) (by omega) hi
    simpa [hi] using this
  apply digs_eq (ho.take k)
  · rcases ht with rfl | ht
    · exact Or.inl (by simp)
    · by_cases h0 : k = 0
      · exact Or.inl (by simp [h0])
      right
      have : (xs.take k).length = k := by simp [hk]
      rw [this]
      have hlt : k - 1 < xs.length := by omega
      have h2 : k - 1 < k := by omega
      simpa [List.getD_eq_getElem?_getD, List.getElem?_take, h2] using ht
  · rw [val_split xs k hk, hd, val_replicate]; simp

theorem digs_length_le {n k : Nat} (h : n < 4294967296 ^ k) : (digs n).length ≤ k := by
  by_cases hc : (digs n).length ≤ k
  · exact hc
  exfalso
  have ht := top_digs n
  have hv := val_digs n
  generalize digs n = xs at *
  rcases ht with rfl | ht
  · simp at hc
  have h1 := val_split xs (xs.length - 1) (by omega)
  have h2 : xs.drop (xs.length - 1) = [xs.getD (xs.length - 1) 0] := by
    apply List.ext_getElem
    · simp; omega
    · intro i h3 h4
      simp at h4
      subst h4
      have : xs.length - 1 < xs.length := by omega
      simp [this]
  rw [h2, val_one] at h1
  have h3 : 4294967296 ^ k ≤ 4294967296 ^ (xs.length - 1) := Nat.pow_le_pow_right (by omega) (by omega)
  have h4 : 4294967296 ^ (xs.length - 1) * 1 ≤ 4294967296 ^ (xs.length - 1) * xs.getD (xs.length - 1) 0 := Nat.mul_le_mul_left _ (by omega)
  omega

theorem lt_pow_digs (n : Nat) : n < 4294967296 ^ (digs n).length := by
  have := val_lt (ok_digs n)
  rwa [val_digs] at this

theorem digs_length_mono {n m : Nat} (h : n ≤ m) : (digs n).length ≤ (digs m).length := digs_length_le (Nat.lt_of_le_of_lt h (lt_pow_digs m))

theorem digs_le_length {xs : List Nat} (ho : Ok xs) : (digs (val xs)).length ≤ xs.length := digs_length_le (val_lt ho)

theorem digs_length_zero (n : Nat) : (digs n).length = 0 ↔ n = 0 := by
  constructor
  · intro h
    have := lt_pow_digs n
    rw [h] at this
    simpa using this
  · intro h; subst h; rfl

theorem digs_inj {n m : Nat} (h : digs n = digs m) : n = m := by rw [← val_digs n, h, val_digs]

theorem pow_le_digs {n : Nat} (h : n ≠ 0) : 4294967296 ^ ((digs n).length - 1) ≤ n := by
  apply Classical.byContradiction
  intro hc
  have := digs_length_le (Nat.lt_of_not_le hc)
  have h0 : (digs n).length ≠ 0 := fun e => h ((digs_length_zero n).1 e)
  omega


/-- The digits are what the limbs begin with. -/
theorem take_digs_val {xs : List Nat} (ho : Ok xs) : xs.take (digs (val xs)).length = digs (val xs) := by
  have hl := digs_le_length ho
  have e := val_split xs _ hl
  have hlt := lt_pow_digs (val xs)
  have hz : val (xs.drop (digs (val xs)).length) = 0 := by
    apply Classical.byContradiction
    intro hne
    have : 4294967296 ^ (digs (val xs)).length * 1 ≤ 4294967296 ^ (digs (val xs)).length * val (xs.drop (digs (val xs)).length) := Nat.mul_le_mul_left _ (by omega)
    omega
  rw [hz] at e
  have hv : val (xs.take (digs (val xs)).length) = val xs := by simp at e; exact e.symm
  have hok := ho.take (digs (val xs)).length
  have hlen : (xs.take (digs (val xs)).length).length = (digs (val xs)).length := by simp [hl]
  apply digs_eq hok _ hv
  by_cases h0 : (digs (val xs)).length = 0
  · left
    rw [List.length_eq_zero_iff.1 h0]; simp
  right
  rw [hlen]
  intro htop
  -- with a nought at the top the value would be shorter
  have hk := val_split (xs.take (digs (val xs)).length) ((digs (val xs)).length - 1) (by omega)
  have hdrop : (xs.take (digs (val xs)).length).drop ((digs (val xs)).length - 1) = [0] := by
    apply List.ext_getElem
    · simp only [List.length_drop, hlen, List.length_cons, List.length_nil]; omega
    · intro i h3 h4
      simp at h4
      subst h4
      have hlt2 : (digs (val xs)).length - 1 < (xs.take (digs (val xs)).length).length := by omega
      rw [List.getElem_drop, List.getElem_singleton]
      rw [List.getD_eq_getElem?_getD, List.getElem?_eq_getElem hlt2] at htop
      simpa using htop
  rw [hdrop] at hk
  have hshort := val_lt (hok.take ((digs (val xs)).length - 1))
  rw [List.length_take, hlen, Nat.min_eq_left (by omega)] at hshort
  rw [hv] at hk
  simp only [val, Nat.mul_zero, Nat.add_zero] at hk
  rw [← hk] at hshort
  have := digs_length_le hshort
  omega

/-- One limb further, with a carry. -/
theorem carry_step {P VZ VA t z cy cy' : Nat} (h : VZ + P * cy = VA) (hs : z + 4294967296 * cy' = cy + t) : VZ + P * z + P * 4294967296 * cy' = VA + P * t := by
  have h2 : P * (z + 4294967296 * cy') = P * (cy + t) := by rw [hs]
  rw [Nat.mul_add, Nat.mul_add, ← Nat.mul_assoc] at h2
  omega
/-- One limb further, with a borrow. -/
theorem borrow_step {P VZ VB VA x y z cy cy' : Nat} (h : VZ + VB = VA + P * cy) (hs : z + (y + cy) = x + 4294967296 * cy') : VZ + P * z + (VB + P * y) = VA + P * x + P * 4294967296 * cy' := by
  have h2 : P * (z + (y + cy)) = P * (x + 4294967296 * cy') := by rw [hs]
  rw [Nat.mul_add, Nat.mul_add, Nat.mul_add, ← Nat.mul_assoc] at h2
  omega
theorem times_step {P VZ VA VB f x y z cy cy' : Nat} (h : VZ + P * cy = VA + VB * f) (hs : z + 4294967296 * cy' = cy + (x + y * f)) : VZ + P * z + P * 4294967296 * cy' = VA + P * x + (VB + P * y) * f := by
  have h2 : P * (z + 4294967296 * cy') = P * (cy + (x + y * f)) := by rw [hs]
  rw [Nat.mul_add, Nat.mul_add, Nat.mul_add, ← Nat.mul_assoc, ← Nat.mul_assoc] at h2
  rw [Nat.add_mul]
  omega
theorem val_snoc (zs : List Nat) (z : Nat) : val (zs ++ [z]) = val zs + 4294967296 ^ zs.length * z := by
  rw [val_append, val_one]
theorem Ok.snoc {zs : List Nat} {z : Nat} (h : Ok zs) (hz : z < 4294967296) : Ok (zs ++ [z]) := h.append (Ok.cons hz Ok.nil)
end Go.Proofs.Ytgalppimdmjdcab.Nt
