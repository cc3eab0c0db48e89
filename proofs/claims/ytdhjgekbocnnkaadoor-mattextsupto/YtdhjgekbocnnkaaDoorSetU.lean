import Derived.Test.YtdhjgekbocnnkaaDoorBits
import Derived.Test.YtdhjgekbocnnkaaDoorSetA
import Derived.Test.YtdhjgekbocnnkaaDoorSetK
/-
  nat.up, nat.down, nat.Shl, nat.Shr.
-/
namespace Go.Proofs.YtdhjgekbocnnkaaDoor
open Go.RowKit Nt
set_option linter.unusedSimpArgs false
set_option linter.unusedVariables false
set_option maxRecDepth 20000

theorem or32 (t l P q : Nat) (hP : ∃ s, P = 2 ^ s) (ht : t < P) (hl : l = q * P) (hb : t + l < 4294967296) : bits .or .u32 (t : Int) (l : Int) = ((t + l : Nat) : Int) := by
  obtain ⟨s, rfl⟩ := hP
  subst hl
  rw [u32_or_nat t (q * 2 ^ s) (by omega) (by omega)]
  have : t ||| q * 2 ^ s = q * 2 ^ s + t := by rw [Nat.or_comm, ← Nat.shiftLeft_eq, Nat.shiftLeft_add_eq_or_of_lt ht]
  rw [this, Nat.add_comm]

/-- The low limb of x times 2^s is a multiple of 2^s. -/
theorem low_mul {x P s : Nat} (hP : 2 ^ s = P) (hs : s < 32) : ∃ q, x * P % 4294967296 = q * P ∧ q * P + P ≤ 4294967296 := by
  have e : (4294967296 : Nat) = P * 2 ^ (32 - s) := by rw [← hP, ← Nat.pow_add, show s + (32 - s) = 32 from by omega]
  refine ⟨x % 2 ^ (32 - s), ?_, ?_⟩
  · rw [e, Nat.mul_comm x P, Nat.mul_mod_mul_left, Nat.mul_comm]
  · have h1 : x % 2 ^ (32 - s) + 1 ≤ 2 ^ (32 - s) := Nat.mod_lt _ (Nat.two_pow_pos _)
    have h2 : P * (x % 2 ^ (32 - s) + 1) ≤ P * 2 ^ (32 - s) := Nat.mul_le_mul_left _ h1
    rw [← e, Nat.mul_add, Nat.mul_comm P] at h2
    omega

theorem up_step {K VY VA t P x l t' : Nat} (h : VY + K * t = VA * P) (hl : l + 4294967296 * t' = x * P) : VY + K * (t + l) + K * 4294967296 * t' = (VA + K * x) * P := by
  have h2 : K * (l + 4294967296 * t') = K * (x * P) := by rw [hl]
  rw [Nat.mul_add, ← Nat.mul_assoc, ← Nat.mul_assoc] at h2
  rw [Nat.mul_add, Nat.add_mul]
  omega

theorem up_end {VY VA P K S t e : Nat} (h : VY + K * t = VA * P) (he : S * P = e) : S * (VY + K * t) = VA * e := by
  rw [h, ← he, Nat.mul_comm VA P, ← Nat.mul_assoc, Nat.mul_comm]

end Go.Proofs.YtdhjgekbocnnkaaDoor

/-
  nat.down, nat.Shl, nat.Shr.
-/
namespace Go.Proofs.YtdhjgekbocnnkaaDoor
open Go.RowKit Nt
set_option linter.unusedSimpArgs false
set_option linter.unusedVariables false
set_option maxRecDepth 20000

/-- Limbs by 2^s (P is 2^s), rounded down. -/
def shrl (P : Nat) : List Nat → List Nat
  | [] => []
  | x :: r => (x + 4294967296 * r.headD 0) / P % 4294967296 :: shrl P r
theorem shrl_length (P : Nat) : ∀ l, (shrl P l).length = l.length
  | [] => rfl
  | x :: r => by simp [shrl, shrl_length P r]
theorem shrl_ok (P : Nat) : ∀ l, Ok (shrl P l)
  | [] => Ok.nil
  | x :: r => Ok.cons (Nat.mod_lt _ (by omega)) (shrl_ok P r)

theorem shr_arith {x h V P Q : Nat} (hQ : 4294967296 = P * Q) (hP : 0 < P) (hx : x < 4294967296) (hV : V % 4294967296 = h) : (x + 4294967296 * V) / P = (x + 4294967296 * h) / P % 4294967296 + 4294967296 * (V / P) := by
  have hr : V % P = h % P := by rw [← hV, hQ, Nat.mod_mul_right_mod]
  have e1 := Nat.div_add_mod V P
  have e2 := Nat.div_add_mod h P
  generalize V / P = a at *
  generalize h / P = b at *
  rw [hr] at e1
  generalize h % P = ρ at *
  have hρ : ρ < P := by
    have : V % P < P := Nat.mod_lt _ hP
    omega
  have k1 : x + 4294967296 * V = x + 4294967296 * ρ + P * (4294967296 * a) := by
    rw [← e1, Nat.mul_add, ← Nat.mul_assoc, Nat.mul_comm 4294967296 P, Nat.mul_assoc]; omega
  have k2 : x + 4294967296 * h = x + 4294967296 * ρ + P * (4294967296 * b) := by
    rw [← e2, Nat.mul_add, ← Nat.mul_assoc, Nat.mul_comm 4294967296 P, Nat.mul_assoc]; omega
  rw [k1, k2, Nat.add_mul_div_left _ _ hP, Nat.add_mul_div_left _ _ hP, Nat.add_mul_mod_self_left]
  have hlt : (x + 4294967296 * ρ) / P < 4294967296 := by
    apply Nat.div_lt_of_lt_mul
    have : 4294967296 * (ρ + 1) ≤ 4294967296 * P := Nat.mul_le_mul_left _ hρ
    rw [Nat.mul_comm P]
    omega
  rw [Nat.mod_eq_of_lt hlt]

theorem val_head (r : List Nat) (h : Ok r) : val r % 4294967296 = r.headD 0 := by
  cases r with
  | nil => rfl
  | cons y t => have := h.head; simp [val]; omega

theorem shrl_val {P Q : Nat} (hQ : 4294967296 = P * Q) (hP : 0 < P) : ∀ l, Ok l → val (shrl P l) = val l / P
  | [], _ => by simp [shrl, val]
  | x :: r, ho => by
    simp only [shrl, val]
    rw [shrl_val hQ hP r ho.tail, shr_arith hQ hP ho.head (val_head r ho.tail)]

theorem headD_drop (xs : List Nat) (k : Nat) : (xs.drop k).headD 0 = xs.getD k 0 := by
  simp [List.headD_eq_head?_getD, List.head?_drop]

theorem val_drop_div {xs : List Nat} (ho : Ok xs) (k : Nat) : val (xs.drop k) = val xs / 4294967296 ^ k := by
  by_cases h : k ≤ xs.length
  · have e := val_split xs k h
    have hl := val_lt (ho.take k)
    rw [List.length_take, Nat.min_eq_left h] at hl
    rw [e, Nat.add_mul_div_left _ _ (Nat.pow_pos (by omega)), Nat.div_eq_of_lt hl, Nat.zero_add]
  · rw [List.drop_of_length_le (by omega)]
    have h2 := val_lt ho
    have h3 : (4294967296 : Nat) ^ xs.length ≤ 4294967296 ^ k := Nat.pow_le_pow_right (by omega) (by omega)
    rw [Nat.div_eq_of_lt (by omega)]
    rfl

/-- What Shl and Shr answer: the number and the error. -/
def shlV (v : Nat) (z : Int) : Nat := if z < 0 then 0 else if v = 0 then 0 else if 1048576 < z + (Go.bitLen v : Nat) then 0 else v * 2 ^ z.toNat
def shlE (v : Nat) (z : Int) : Int := if z < 0 then 1 else if v = 0 then 0 else if 1048576 < z + (Go.bitLen v : Nat) then 2 else 0
def shrV (v : Nat) (z : Int) : Nat := if z < 0 then 0 else v / 2 ^ z.toNat
def shrE (z : Int) : Int := if z < 0 then 1 else 0

theorem nil_sl (w : World) : Sl w none (digs 0).length 0 (digs 0) := Sl.none w

end Go.Proofs.YtdhjgekbocnnkaaDoor
