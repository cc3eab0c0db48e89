/-
  Plain mathematics, no Go: decimal digits by chunks of nine.
-/
import Derived.Test.YtnjepeijihmemaaDoorNums
import Derived.Lib.ItoaNum
namespace Go.Proofs.YtnjepeijihmemaaDoor.Nt

/-- The lowest k decimal digits, the highest first, with noughts ahead. -/
def padL : Nat → Nat → List UInt8
  | 0, _ => []
  | k + 1, c => UInt8.ofNat (48 + c / 10 ^ k % 10) :: padL k c
theorem padL_length : ∀ k c, (padL k c).length = k
  | 0, _ => rfl
  | k + 1, c => by rw [padL, List.length_cons, padL_length k c]
theorem padL_snoc : ∀ k c, padL (k + 1) c = padL k (c / 10) ++ [UInt8.ofNat (48 + c % 10)]
  | 0, c => by simp [padL]
  | k + 1, c => by
    rw [padL, padL_snoc k c, padL, List.cons_append]
    congr 3
    rw [Nat.div_div_eq_div_mul, Nat.pow_succ, Nat.mul_comm]
theorem dec_pad (q : Nat) (hq : 0 < q) : ∀ k r, r < 10 ^ k → Lib.decDigits (q * 10 ^ k + r) = Lib.decDigits q ++ padL k r
  | 0, r, hr => by
    have : r = 0 := by simpa using hr
    subst this
    simp [padL]
  | k + 1, r, hr => by
    have e : q * 10 ^ (k + 1) = 10 * (q * 10 ^ k) := by rw [Nat.pow_succ, ← Nat.mul_assoc, Nat.mul_comm]
    have hp : 0 < q * 10 ^ k := Nat.mul_pos hq (Nat.pow_pos (by omega))
    rw [Lib.decDigits, dif_neg (by omega), e, show (10 * (q * 10 ^ k) + r) / 10 = q * 10 ^ k + r / 10 from by omega, show (10 * (q * 10 ^ k) + r) % 10 = r % 10 from by omega, dec_pad q hq k (r / 10) (by rw [Nat.pow_succ] at hr; omega), List.append_assoc, padL_snoc]

/-- A list of chunks, the lowest first. -/
def valC : List Nat → Nat
  | [] => 0
  | c :: r => c + 1000000000 * valC r
theorem valC_snoc (l : List Nat) (c : Nat) : valC (l ++ [c]) = valC l + 1000000000 ^ l.length * c := by
  induction l with
  | nil => simp [valC]
  | cons x r ih =>
    rw [List.cons_append, valC, valC, ih, List.length_cons, Nat.pow_succ, Nat.mul_add, Nat.mul_comm (1000000000 ^ r.length) 1000000000, Nat.mul_assoc]
    omega
theorem chunk_step {A V B R : Nat} (h : A = V + B * R) : A = V + B * (R % 1000000000) + B * 1000000000 * (R / 1000000000) := by
  have e := Nat.div_add_mod R 1000000000
  rw [h]
  conv => lhs; rw [← e]
  rw [Nat.mul_add, Nat.mul_assoc]
  omega
theorem chunk_len {A V k R m : Nat} (h : A = V + 1000000000 ^ k * R) (hR : 0 < R) (hA : A < 2 ^ m) : k < m := by
  have h1 : 2 ^ k ≤ 1000000000 ^ k := Nat.pow_le_pow_left (by omega) k
  have h2 : 1000000000 ^ k * 1 ≤ 1000000000 ^ k * R := Nat.mul_le_mul_left _ hR
  exact (Nat.pow_lt_pow_iff_right (by omega : 1 < 2)).1 (Nat.lt_of_le_of_lt (by omega) hA)
theorem valC_drop {C : List Nat} {j : Nat} (h : j < C.length) : valC (C.drop j) = C.getD j 0 + 1000000000 * valC (C.drop (j + 1)) := by
  rw [List.drop_eq_getElem_cons h, valC, List.getD_eq_getElem?_getD, List.getElem?_eq_getElem h]
  rfl
/-- The next chunk behind those that are told. -/
theorem dec_chunk {C : List Nat} {j : Nat} (h : j < C.length) (hc : C.getD j 0 < 1000000000) (hp : 0 < valC (C.drop (j + 1))) : Lib.decDigits (valC (C.drop (j + 1))) ++ padL 9 (C.getD j 0) = Lib.decDigits (valC (C.drop j)) := by
  have e : valC (C.drop j) = valC (C.drop (j + 1)) * 10 ^ 9 + C.getD j 0 := by rw [valC_drop h]; omega
  rw [e]
  exact (dec_pad _ hp 9 _ hc).symm
end Go.Proofs.YtnjepeijihmemaaDoor.Nt
