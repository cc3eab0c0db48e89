/-
  Plain mathematics, no Go: what a text of a whole number is read as.
-/
import Derived.Test.YtoplejeljmpcpaaDoorStrOps
import Derived.Test.YtoplejeljmpcpaaDoorSetG
import Derived.Test.YtoplejeljmpcpaaDoorZPred
namespace Go.Proofs.YtoplejeljmpcpaaDoor
open Go Go.RowKit Nt
set_option linter.unusedSimpArgs false
set_option linter.unusedVariables false
set_option maxRecDepth 20000

def dgB (n : Nat) : Bool := decide (48 ≤ n) && decide (n ≤ 57)
theorem dgB_iff {n : Nat} : dgB n = true ↔ 48 ≤ n ∧ n ≤ 57 := by unfold dgB; simp
theorem dgB_no {n : Nat} : dgB n = false ↔ ¬ (48 ≤ n ∧ n ≤ 57) := by rw [← dgB_iff]; cases dgB n <;> simp
/-- Does some number's text go on with that byte? -/
def goes (l : List UInt8) (i : Nat) : Bool :=
  if i = 0 then dgB (bt l 0) || decide (bt l 0 = 45) else if bt l 0 = 48 then false else if i = 1 ∧ bt l 0 = 45 then dgB (bt l i) && !decide (bt l i = 48) else dgB (bt l i)
theorem goes_0 {l : List UInt8} {i : Nat} {d : Bool} (hi : i = 0) (hd : dgB (bt l i) = d) : goes l i = (d || decide (bt l 0 = 45)) := by subst hi; unfold goes; rw [if_pos rfl, hd]
theorem goes_48 {l : List UInt8} {i : Nat} (hi : i ≠ 0) (h : bt l 0 = 48) : goes l i = false := by unfold goes; rw [if_neg hi, if_pos h]
theorem goes_1 {l : List UInt8} {i : Nat} {d : Bool} (hi : i = 1) (h48 : ¬ bt l 0 = 48) (h45 : bt l 0 = 45) (hd : dgB (bt l i) = d) : goes l i = (d && !decide (bt l i = 48)) := by unfold goes; rw [if_neg (by omega), if_neg h48, if_pos ⟨hi, h45⟩, hd]
theorem goes_n {l : List UInt8} {i : Nat} {d : Bool} (hi : i ≠ 0) (h48 : ¬ bt l 0 = 48) (h : ¬ (i = 1 ∧ bt l 0 = 45)) (hd : dgB (bt l i) = d) : goes l i = d := by unfold goes; rw [if_neg hi, if_neg h48, if_neg h, hd]
def isN (l : List UInt8) : Bool := decide (0 < l.length) && decide (bt l 0 = 45)
def tl (l : List UInt8) : List UInt8 := if isN l then l.drop 1 else l
/-- What is answered: the number, the place, the error. -/
inductive RdIs (l : List UInt8) : Int → Nat → Int → Prop
  | long : 65536 < l.length → RdIs l 0 0 2
  | bad (i : Nat) : l.length ≤ 65536 → i < l.length → goes l i = false → (∀ j, j < i → goes l j = true) → RdIs l 0 i 4
  | none : l.length ≤ 65536 → (∀ j, j < l.length → goes l j = true) → tl l = [] → RdIs l 0 l.length 4
  | ok : l.length ≤ 65536 → (∀ j, j < l.length → goes l j = true) → tl l ≠ [] → RdIs l (sg (isN l) (decV (tl l))) 0 0
theorem first_no (p : Nat → Bool) : ∀ n, (∀ j, j < n → p j = true) ∨ ∃ i, i < n ∧ p i = false ∧ ∀ j, j < i → p j = true
  | 0 => Or.inl (fun j h => by omega)
  | n + 1 => by
    rcases first_no p n with h | ⟨i, h1, h2, h3⟩
    · cases e : p n with
      | true => exact Or.inl (fun j hj => by rcases Nat.lt_or_ge j n with h' | h'; exact h j h'; rw [show j = n by omega]; exact e)
      | false => exact Or.inr ⟨n, by omega, e, h⟩
    · exact Or.inr ⟨i, by omega, h2, h3⟩
theorem rd_some (l : List UInt8) : ∃ Z A E, RdIs l Z A E := by
  by_cases h : 65536 < l.length
  · exact ⟨_, _, _, .long h⟩
  · rcases first_no (goes l) l.length with h1 | ⟨i, h1, h2, h3⟩
    · by_cases e : tl l = []
      · exact ⟨_, _, _, .none (by omega) h1 e⟩
      · exact ⟨_, _, _, .ok (by omega) h1 e⟩
    · exact ⟨_, _, _, .bad i (by omega) h1 h2 h3⟩

/-! The pieces that the calls ask for. -/
theorem bt_drop (l : List UInt8) (k i : Nat) : bt (l.drop k) i = bt l (k + i) := by unfold bt; rw [List.getD_eq_getElem?_getD, List.getElem?_drop, ← List.getD_eq_getElem?_getD]
theorem dig_bt {l : List UInt8} {i : Nat} : dig (l.getD i 0) ↔ dgB (bt l i) = true := by rw [dgB_iff]; exact Iff.rfl
theorem b48 {l : List UInt8} {i : Nat} : l.getD i 0 = 48 ↔ bt l i = 48 := by
  constructor
  · intro h; unfold bt; rw [h]; rfl
  · intro h; unfold bt at h; exact UInt8.toNat_inj.1 h
theorem bad_bt {t : List UInt8} {i : Nat} : bad t i ↔ dgB (bt t i) = false ∨ (0 < i ∧ bt t 0 = 48) := by
  unfold bad
  rw [dig_bt, b48]
  cases dgB (bt t i) <;> simp
theorem good_bt {t : List UInt8} {i : Nat} : ¬ bad t i ↔ dgB (bt t i) = true ∧ ¬ (0 < i ∧ bt t 0 = 48) := by
  rw [bad_bt]
  cases dgB (bt t i) <;> simp
/-- A text with no minus ahead. -/
theorem goes_plain {l : List UInt8} {i : Nat} (h : bt l 0 ≠ 45) : goes l i = true ↔ ¬ bad l i := by
  rw [good_bt]
  unfold goes
  by_cases h0 : i = 0
  · subst h0
    simp [h]
  · by_cases h1 : bt l 0 = 48
    · have : 0 < i := by omega
      simp [h0, h1, this]
    · simp [h0, h1, h]
theorem goes_minus {l : List UInt8} {i : Nat} (h : bt l 0 = 45) (h1 : bt l 1 ≠ 48) : goes l (i + 1) = true ↔ ¬ bad (l.drop 1) i := by
  rw [good_bt, bt_drop, bt_drop, Nat.add_comm 1 i]
  unfold goes
  have e2 : ¬ bt l 0 = 48 := by omega
  by_cases h0 : i = 0
  · subst h0
    simp [e2, h, h1]
  · simp [e2, h0, h, h1]
theorem goes_m0 {l : List UInt8} (h : bt l 0 = 45) : goes l 0 = true := by unfold goes; simp [h]
theorem goes_m1 {l : List UInt8} (h : bt l 0 = 45) (h1 : bt l 1 = 48) : goes l 1 = false := by unfold goes; simp [h, h1]
theorem isN_t {l : List UInt8} (h : isN l = true) : 0 < l.length ∧ bt l 0 = 45 := by unfold isN at h; simpa using h
theorem isN_f {l : List UInt8} (h : isN l = false) : l.length = 0 ∨ bt l 0 ≠ 45 := by
  unfold isN at h
  simp at h
  by_cases e : l.length = 0
  · exact Or.inl e
  · exact Or.inr (h (by omega))
theorem isN_plain {l : List UInt8} (h : isN l = false) : bt l 0 ≠ 45 := by
  rcases isN_f h with e | e
  · have : l = [] := List.length_eq_zero_iff.1 e
    subst this
    decide
  · exact e
theorem tl_t {l : List UInt8} (h : isN l = true) : tl l = l.drop 1 := by unfold tl; rw [if_pos h]
theorem tl_f {l : List UInt8} (h : isN l = false) : tl l = l := by unfold tl; rw [h]; rfl
/-- What ofDigits wants: nothing but digits behind the minus. -/
theorem all_dig {l : List UInt8} (h : ∀ j, j < l.length → goes l j = true) : ∀ j, j < (tl l).length → dgB (bt (tl l) j) = true := fun j hj => by
  cases e : isN l with
  | true =>
    rw [tl_t e] at hj ⊢
    obtain ⟨h1, h2⟩ := isN_t e
    have hj' : j + 1 < l.length := by simp at hj; omega
    rw [bt_drop, Nat.add_comm]
    have h3 := h (j + 1) hj'
    have h4 : bt l 1 ≠ 48 := fun h5 => by
      have := h 1 (by omega)
      rw [goes_m1 h2 h5] at this
      cases this
    have := (good_bt.1 ((goes_minus h2 h4).1 h3)).1
    rwa [bt_drop, Nat.add_comm] at this
  | false =>
    rw [tl_f e] at hj ⊢
    exact (good_bt.1 ((goes_plain (isN_plain e)).1 (h j hj))).1
theorem snocInd {p : List UInt8 → Prop} (h0 : p []) (h1 : ∀ r b, p r → p (r ++ [b])) (l : List UInt8) : p l := by
  rw [← List.reverse_reverse l]
  generalize l.reverse = m
  induction m with
  | nil => exact h0
  | cons b r ih => rw [List.reverse_cons]; exact h1 _ _ ih
theorem decV_lt : ∀ (l : List UInt8), (∀ b ∈ l, b.toNat ≤ 57) → decV l < 10 ^ l.length := by
  intro l
  induction l using snocInd with
  | h0 => intro _; decide
  | h1 r b ih =>
    intro h
    have h1 := ih (fun x hx => h x (by simp [hx]))
    have h2 := h b (by simp)
    rw [decV_snoc, List.length_append, List.length_singleton, Nat.pow_succ]
    omega
theorem digB_le {l : List UInt8} (h : ∀ j, j < l.length → dgB (bt l j) = true) : ∀ b ∈ l, b.toNat ≤ 57 := fun b hb => by
  obtain ⟨i, hi, rfl⟩ := List.mem_iff_getElem.1 hb
  have h1 := (dgB_iff.1 (h i hi)).2
  unfold bt at h1
  rwa [List.getD_eq_getElem?_getD, List.getElem?_eq_getElem hi] at h1
theorem dig_take {l : List UInt8} (h : ∀ j, j < l.length → dgB (bt l j) = true) (k : Nat) : ∀ j, j < (l.take k).length → dgB (bt (l.take k) j) = true := fun j hj => by
  have hj' : j < l.length ∧ j < k := by simp at hj; omega
  have := h j hj'.1
  unfold bt at this ⊢
  rwa [List.getD_eq_getElem?_getD, List.getElem?_take, if_pos hj'.2, ← List.getD_eq_getElem?_getD]
theorem dig_drop {l : List UInt8} (h : ∀ j, j < l.length → dgB (bt l j) = true) (k : Nat) : ∀ j, j < (l.drop k).length → dgB (bt (l.drop k) j) = true := fun j hj => by
  rw [bt_drop]
  exact h (k + j) (by simp at hj; omega)
theorem decV_app (l m : List UInt8) : decV (l ++ m) = decV l * 10 ^ m.length + decV m := by
  induction m using snocInd with
  | h0 => simp [decV]
  | h1 r b ih =>
    rw [← List.append_assoc, decV_snoc, decV_snoc, ih, List.length_append, List.length_singleton, Nat.pow_succ]
    rw [Nat.add_mul, Nat.mul_assoc]
    omega
theorem decV_dl {l : List UInt8} {k : Nat} (h : ∀ j, j < l.length → dgB (bt l j) = true) (hk : l.length ≤ k) : (digs (decV l)).length ≤ k := by
  refine Nat.le_trans (digs_length_le (k := l.length) ?_) hk
  have h1 := decV_lt l (digB_le h)
  have h2 : 10 ^ l.length ≤ 4294967296 ^ l.length := Nat.pow_le_pow_left (by omega) _
  omega
theorem decV_step {l : List UInt8} {k : Nat} (hk : k < l.length) (h : dgB (bt l k) = true) : decV (l.take (k + 1)) = 10 * decV (l.take k) + (bt l k - 48) := by
  rw [take_snocB l k hk, decV_snoc]
  unfold bt
  omega
theorem decV_chunk {l : List UInt8} {k n : Nat} (h : k + n ≤ l.length) : decV (l.take (k + n)) = decV (l.take k) * 10 ^ n + decV ((l.drop k).take n) := by
  rw [List.take_add, decV_app]
  congr 3
  simp
  omega
theorem take9 {l : List UInt8} (h : ∀ j, j < l.length → dgB (bt l j) = true) {k : Nat} (hk : k ≤ 9) : decV (l.take k) < 1000000000 := by
  have h1 := decV_lt (l.take k) (digB_le (dig_take h k))
  have h2 : 10 ^ (l.take k).length ≤ 10 ^ 9 := Nat.pow_le_pow_right (by omega) (by simp; omega)
  omega
end Go.Proofs.YtoplejeljmpcpaaDoor
