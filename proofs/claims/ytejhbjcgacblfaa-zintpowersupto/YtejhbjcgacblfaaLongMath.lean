/-
  The mathematics of a long division.
-/
import Derived.Test.YtejhbjcgacblfaaBits
namespace Go.Proofs.Ytejhbjcgacblfaa
open Go.RowKit Nt
set_option linter.unusedSimpArgs false
set_option linter.unusedVariables false

/-- The highest limb of a number that lies between half a power and the power. -/
theorem top_half {v n : Nat} (hn : 0 < n) (h1 : 4294967296 ^ (n - 1) * 2147483648 ≤ v) (h2 : v < 4294967296 ^ n) : (digs v).length = n ∧ 2147483648 ≤ (digs v).getD (n - 1) 0 := by
  obtain ⟨k, rfl⟩ : ∃ k, n = k + 1 := ⟨n - 1, by omega⟩
  rw [Nat.add_sub_cancel] at h1 ⊢
  have hle := digs_length_le h2
  have hlt := lt_pow_digs v
  have hk0 : 0 < 4294967296 ^ k := Nat.pow_pos (by omega)
  have hl : (digs v).length = k + 1 := by
    apply Classical.byContradiction
    intro hne
    have : 4294967296 ^ (digs v).length ≤ 4294967296 ^ k := Nat.pow_le_pow_right (by omega) (by omega)
    omega
  refine ⟨hl, ?_⟩
  have e := val_take_succ (digs v) k (by omega)
  rw [List.take_of_length_le (by omega), val_digs] at e
  have ht := val_lt ((ok_digs v).take k)
  rw [List.length_take, Nat.min_eq_left (by omega)] at ht
  apply Classical.byContradiction
  intro hc
  have h3 : 4294967296 ^ k * ((digs v).getD k 0 + 1) ≤ 4294967296 ^ k * 2147483648 := Nat.mul_le_mul_left _ (by omega)
  rw [Nat.mul_add, Nat.mul_one] at h3
  omega

/-- The divisor, moved up so that its highest bit is set. -/
theorem norm_top {B : List Nat} {n t s : Nat} (ho : Ok B) (hl : B.length = n) (hn : 0 < n) (ht : B.getD (n - 1) 0 = t) (h0 : t ≠ 0) (hs : s + Go.bitLen t = 32) :
    4294967296 ^ (n - 1) * 2147483648 ≤ val B * 2 ^ s ∧ val B * 2 ^ s < 4294967296 ^ n := by
  obtain ⟨k, rfl⟩ : ∃ k, n = k + 1 := ⟨n - 1, by omega⟩
  rw [Nat.add_sub_cancel] at ht ⊢
  obtain ⟨s1, s2⟩ := bitLen_spec t
  have s3 := s2 h0
  have e := val_take_succ B k (by omega)
  rw [List.take_of_length_le (by omega), ht] at e
  have hv := val_lt (ho.take k)
  rw [List.length_take, Nat.min_eq_left (by omega)] at hv
  have hb0 : Go.bitLen t ≠ 0 := by intro e; rw [e] at s1; simp at s1; exact h0 s1
  have hp : 0 < 2 ^ s := Nat.two_pow_pos s
  constructor
  · have e2 : (2147483648 : Nat) = 2 ^ (Go.bitLen t - 1) * 2 ^ s := by rw [← Nat.pow_add, show Go.bitLen t - 1 + s = 31 from by omega]
    rw [e2, ← Nat.mul_assoc]
    apply Nat.mul_le_mul_right
    have : 4294967296 ^ k * 2 ^ (Go.bitLen t - 1) ≤ 4294967296 ^ k * t := Nat.mul_le_mul_left _ s3
    omega
  · have e2 : (4294967296 : Nat) = 2 ^ Go.bitLen t * 2 ^ s := by rw [← Nat.pow_add, show Go.bitLen t + s = 32 from by omega]
    have h3 : 4294967296 ^ k * (t + 1) ≤ 4294967296 ^ k * 2 ^ Go.bitLen t := Nat.mul_le_mul_left _ s1
    rw [Nat.mul_add, Nat.mul_one] at h3
    have h4 : val B < 4294967296 ^ k * 2 ^ Go.bitLen t := by omega
    have h5 := Nat.mul_lt_mul_of_pos_right h4 hp
    rw [Nat.mul_assoc, ← e2, ← Nat.pow_succ] at h5
    exact h5

/-- At the start what is divided lies below the divisor's highest multiple. -/
theorem long_start {A B : List Nat} {la n s : Nat} (hA : Ok A) (hl : A.length = la) (hn : 0 < n) (hnl : n ≤ la) (hB : 4294967296 ^ (n - 1) ≤ val B) : val A * 2 ^ s < val B * 2 ^ s * 4294967296 ^ (la - n + 1) := by
  have h1 := val_lt hA
  rw [hl] at h1
  have h2 : 4294967296 ^ (n - 1) * 4294967296 ^ (la - n + 1) ≤ val B * 4294967296 ^ (la - n + 1) := Nat.mul_le_mul_right _ hB
  rw [← Nat.pow_add, show n - 1 + (la - n + 1) = la from by omega] at h2
  rw [Nat.mul_assoc, Nat.mul_comm (2 ^ s), ← Nat.mul_assoc]
  exact Nat.mul_lt_mul_of_pos_right (by omega) (Nat.two_pow_pos s)

/-- One digit's part: what is left is cut in three. -/
theorem long_cut {X : List Nat} {j n i V : Nat} (ho : Ok X) (hl : X.length = j + (n + 1) + i) (hV : V < 4294967296 ^ n) (h : val X < V * 4294967296 ^ (j + 1)) :
    val (X.take j) < 4294967296 ^ j ∧ val X = val (X.take j) + 4294967296 ^ j * val ((X.drop j).take (n + 1)) ∧ val ((X.drop j).drop (n + 1)) = 0 ∧ val ((X.drop j).take (n + 1)) < V * 4294967296 := by
  have e1 := val_split X j (by omega)
  have e2 := val_split (X.drop j) (n + 1) (by simp; omega)
  have t1 := val_lt (ho.take j)
  rw [List.length_take, Nat.min_eq_left (by omega)] at t1
  have hp : 0 < 4294967296 ^ j := Nat.pow_pos (by omega)
  generalize val (X.take j) = a at *
  generalize hb : val ((X.drop j).take (n + 1)) = b at *
  generalize hc : val ((X.drop j).drop (n + 1)) = c at *
  rw [Nat.pow_succ, Nat.mul_comm (4294967296 ^ j), ← Nat.mul_assoc] at h
  have h3 : 4294967296 ^ j * val (X.drop j) < 4294967296 ^ j * (V * 4294967296) := by
    rw [Nat.mul_comm (4294967296 ^ j) (V * 4294967296)]
    omega
  have h4 := Nat.lt_of_mul_lt_mul_left h3
  have hc0 : c = 0 := by
    apply Classical.byContradiction
    intro hne
    have h5 : 4294967296 ^ (n + 1) * 1 ≤ 4294967296 ^ (n + 1) * c := Nat.mul_le_mul_left _ (by omega)
    have h6 : V * 4294967296 < 4294967296 ^ n * 4294967296 := Nat.mul_lt_mul_of_pos_right hV (by omega)
    rw [← Nat.pow_succ] at h6
    omega
  rw [hc0, Nat.mul_zero, Nat.add_zero] at e2
  rw [e2] at e1 h4
  exact ⟨t1, e1, hc0, h4⟩

theorem long_less {a K b V : Nat} (h : a < K) (hV : 0 < V) : a + K * (b % V) < V * K := by
  have h1 : K * (b % V + 1) ≤ K * V := Nat.mul_le_mul_left _ (Nat.mod_lt _ hV)
  rw [Nat.mul_add, Nat.mul_one, Nat.mul_comm K V] at h1
  omega
theorem long_same {a K b V Q U : Nat} (h : a + K * b + V * (K * 4294967296) * Q = U) : a + K * (b % V) + V * K * (b / V + 4294967296 * Q) = U := by
  have h1 : K * b = K * (V * (b / V) + b % V) := by rw [Nat.div_add_mod]
  rw [Nat.mul_add, ← Nat.mul_assoc] at h1
  rw [Nat.mul_add, Nat.mul_comm V K, ← Nat.mul_assoc]
  rw [← Nat.mul_assoc, Nat.mul_comm V K] at h
  omega
/-- The end: quotient and rest. -/
theorem long_end {X V Q a b S : Nat} (h : X + V * Q = a * S) (hl : X < V) (hV : V = b * S) (hS : 0 < S) : Q = a / b ∧ X = (a % b) * S := by
  have hb : 0 < b := by
    apply Nat.pos_of_ne_zero
    intro e
    rw [e, Nat.zero_mul] at hV
    omega
  have hq : Q = a * S / V := by
    rw [← h, Nat.mul_comm V Q, Nat.add_mul_div_right _ _ (by omega), Nat.div_eq_of_lt hl, Nat.zero_add]
  have hr : X = a * S % V := by
    rw [← h, Nat.mul_comm V Q, Nat.add_mul_mod_self_right, Nat.mod_eq_of_lt hl]
  rw [hV, Nat.mul_div_mul_right _ _ hS] at hq
  rw [hV, Nat.mul_mod_mul_right] at hr
  exact ⟨hq, hr⟩
end Go.Proofs.Ytejhbjcgacblfaa
