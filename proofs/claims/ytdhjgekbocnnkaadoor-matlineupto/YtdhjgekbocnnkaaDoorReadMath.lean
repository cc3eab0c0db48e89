/-
  Plain mathematics, no Go: the number of a text of digits.
-/
import Derived.Test.YtdhjgekbocnnkaaDoorSetT
namespace Go.Proofs.YtdhjgekbocnnkaaDoor.Nt

def dig (b : UInt8) : Prop := 48 ≤ b.toNat ∧ b.toNat ≤ 57
instance (b : UInt8) : Decidable (dig b) := by unfold dig; infer_instance
/-- The number of a list of digits. -/
def decV (l : List UInt8) : Nat := l.foldl (fun v b => v * 10 + (b.toNat - 48)) 0
theorem decV_snoc (l : List UInt8) (b : UInt8) : decV (l ++ [b]) = decV l * 10 + (b.toNat - 48) := by simp [decV]
/-- A byte with which no number goes on. -/
def bad (l : List UInt8) (i : Nat) : Prop := ¬ dig (l.getD i 0) ∨ (0 < i ∧ l.getD 0 0 = 48)
instance (l : List UInt8) (i : Nat) : Decidable (bad l i) := by unfold bad; infer_instance
theorem ofNat_dig {d : Nat} (h : d < 10) : (UInt8.ofNat (48 + d)).toNat = 48 + d := by rw [UInt8.toNat_ofNat']; omega
/-- The digits of a number are read as that number. -/
theorem decV_dec (u : Nat) : decV (Lib.decDigits u) = u := by
  induction u using Nat.strongRecOn with
  | _ u ih =>
    rw [Lib.decDigits]
    split
    · rename_i h
      simp only [decV, List.foldl_cons, List.foldl_nil, ofNat_dig h]
      omega
    · rename_i h
      rw [decV_snoc, ih (u / 10) (by omega), ofNat_dig (Nat.mod_lt _ (by omega))]
      omega
theorem dec_digs (u : Nat) : ∀ b ∈ Lib.decDigits u, dig b := by
  induction u using Nat.strongRecOn with
  | _ u ih =>
    rw [Lib.decDigits]
    split
    · rename_i h
      intro b hb
      simp only [List.mem_singleton] at hb
      subst hb
      unfold dig
      rw [ofNat_dig h]
      omega
    · rename_i h
      intro b hb
      rcases List.mem_append.1 hb with hb | hb
      · exact ih (u / 10) (by omega) b hb
      · simp only [List.mem_singleton] at hb
        subst hb
        unfold dig
        rw [ofNat_dig (Nat.mod_lt _ (by omega))]
        omega
theorem dec_ne (u : Nat) : Lib.decDigits u ≠ [] := by rw [Lib.decDigits]; split <;> simp
theorem dec_head (u : Nat) (h : 1 < (Lib.decDigits u).length) : (Lib.decDigits u).getD 0 0 ≠ 48 := by
  induction u using Nat.strongRecOn with
  | _ u ih =>
    rw [Lib.decDigits] at h ⊢
    split
    · rename_i hu
      rw [dif_pos hu] at h
      simp at h
    · rename_i hu
      have hne := dec_ne (u / 10)
      have hl : 0 < (Lib.decDigits (u / 10)).length := List.length_pos_iff.2 hne
      rw [List.getD_eq_getElem?_getD, List.getElem?_append_left hl, ← List.getD_eq_getElem?_getD]
      rcases Nat.lt_or_ge 1 (Lib.decDigits (u / 10)).length with h1 | h1
      · exact ih (u / 10) (by omega) h1
      · by_cases hs : u / 10 < 10
        · rw [Lib.decDigits_one hs]
          show UInt8.ofNat (48 + u / 10) ≠ 48
          intro e
          have e1 := congrArg UInt8.toNat e
          rw [ofNat_dig hs] at e1
          have : (48 : UInt8).toNat = 48 := rfl
          omega
        · have : 2 ≤ (Lib.decDigits (u / 10)).length := by
            rw [Lib.decDigits, dif_neg hs, List.length_append, List.length_singleton]
            have := List.length_pos_iff.2 (dec_ne (u / 10 / 10))
            omega
          omega
theorem dec_good (u i : Nat) (hi : i < (Lib.decDigits u).length) : ¬ bad (Lib.decDigits u) i := by
  rintro (h | ⟨h, h'⟩)
  · refine h (dec_digs u _ ?_)
    rw [List.getD_eq_getElem?_getD, List.getElem?_eq_getElem hi]
    exact List.getElem_mem _
  · exact dec_head u (by omega) h'
theorem take_snocB (l : List UInt8) (k : Nat) (h : k < l.length) : l.take (k + 1) = l.take k ++ [l.getD k 0] := by
  rw [List.take_succ_eq_append_getElem h, List.getD_eq_getElem?_getD, List.getElem?_eq_getElem h]
  rfl
theorem pow9 {j : Nat} (h : j ≤ 9) : 10 ^ j ≤ 1000000000 := by
  have : 10 ^ j ≤ 10 ^ 9 := Nat.pow_le_pow_right (by omega) h
  omega
end Go.Proofs.YtdhjgekbocnnkaaDoor.Nt
