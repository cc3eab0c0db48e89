import Derived.Test.YtaplbadcpbollaaGreatDoorTxA
import Derived.Test.YtaplbadcpbollaaGreatDoorSetP
import Derived.Deep.LoopGhost
/-
  Plain mathematics, no Go: the number of a text of digits.
-/
namespace Go.Proofs.YtaplbadcpbollaaGreatDoor.Nt

def dig (b : UInt8) : Prop := 48 ≤ b.toNat ∧ b.toNat ≤ 57
instance (b : UInt8) : Decidable (dig b) := by unfold dig; infer_instance
/-- The number of a list of digits. -/
def decV (l : List UInt8) : Nat := l.foldl (fun v b => v * 10 + (b.toNat - 48)) 0
theorem decV_snoc (l : List UInt8) (b : UInt8) : decV (l ++ [b]) = decV l * 10 + (b.toNat - 48) := by simp [decV]
/-- A byte with which no number goes on. -/
def bad (l : List UInt8) (i : Nat) : Prop := ¬ dig (l.getD i 0) ∨ (0 < i ∧ l.getD 0 0 = 48)
instance (l : List UInt8) (i : Nat) : Decidable (bad l i) := by unfold bad; infer_instance
theorem ofNat_dig {d : Nat} (h : d < 10) : (UInt8.ofNat (48 + d)).toNat = 48 + d := by rw [UInt8.toNat_ofNat']; omega
/-- The digits of a number are read as that number. -/
theorem decV_dec (u : Nat) : decV (Lib.decDigits u) = u := by
  induction u using Nat.strongRecOn with
  | _ u ih =>
    rw [Lib.decDigits]
    split
    · rename_i h
      simp only [decV, List.foldl_cons, List.foldl_nil, ofNat_dig h]
      omega
    · rename_i h
      rw [decV_snoc, ih (u / 10) (by omega), ofNat_dig (Nat.mod_lt _ (by omega))]
      omega
theorem dec_digs (u : Nat) : ∀ b ∈ Lib.decDigits u, dig b := by
  induction u using Nat.strongRecOn with
  | _ u ih =>
    rw [Lib.decDigits]
    split
    · rename_i h
      intro b hb
      simp only [List.mem_singleton] at hb
      subst hb
      unfold dig
      rw [ofNat_dig h]
      omega
    · rename_i h
      intro b hb
      rcases List.mem_append.1 hb with hb | hb
      · exact ih (u / 10) (by omega) b hb
      · simp only [List.mem_singleton] at hb
        subst hb
        unfold dig
        rw [ofNat_dig (Nat.mod_lt _ (by omega))]
        omega
theorem dec_ne (u : Nat) : Lib.decDigits u ≠ [] := by rw [Lib.decDigits]; split <;> simp
theorem dec_head (u : Nat) (h : 1 < (Lib.decDigits u).length) : (Lib.decDigits u).getD 0 0 ≠ 48 := by
  induction u using Nat.strongRecOn with
  | _ u ih =>
    rw [Lib.decDigits] at h ⊢
    split
    · rename_i hu
      rw [dif_pos hu] at h
      simp at h
    · rename_i hu
      have hne := dec_ne (u / 10)
      have hl : 0 < (Lib.decDigits (u / 10)).length := List.length_pos_iff.2 hne
      rw [List.getD_eq_getElem?_getD, List.getElem?_append_left hl, ← List.getD_eq_getElem?_getD]
      rcases Nat.lt_or_ge 1 (Lib.decDigits (u / 10)).length with h1 | h1
      · exact ih (u / 10) (by omega) h1
      · by_cases hs : u / 10 < 10
        · rw [Lib.decDigits_one hs]
          show UInt8.ofNat (48 + u / 10) ≠ 48
          intro e
          have e1 := congrArg UInt8.toNat e
          rw [ofNat_dig hs] at e1
          have : (48 : UInt8).toNat = 48 := rfl
          omega
        · have : 2 ≤ (Lib.decDigits (u / 10)).length := by
            rw [Lib.decDigits, dif_neg hs, List.length_append, List.length_singleton]
            have := List.length_pos_iff.2 (dec_ne (u / 10 / 10))
            omega
          omega
theorem take_snocB (l : List UInt8) (k : Nat) (h : k < l.length) : l.take (k + 1) = l.take k ++ [l.getD k 0] := by
  rw [List.take_succ_eq_append_getElem h, List.getD_eq_getElem?_getD, List.getElem?_eq_getElem h]
  rfl
end Go.Proofs.YtaplbadcpbollaaGreatDoor.Nt

/-
  The document's Text: nine digits at a time.
-/
namespace Go.Proofs.YtaplbadcpbollaaGreatDoor
open Go.RowKit Nt
set_option linter.unusedSimpArgs false
set_option linter.unusedVariables false
set_option maxRecDepth 20000

namespace Nt
theorem pad_dec : ∀ i r, 10 ^ i ≤ r → r < 10 ^ (i + 1) → Lib.decDigits r = padL (i + 1) r
  | 0, r, h1, h2 => by
    rw [Lib.decDigits_one (by simpa using h2)]
    simp [padL]
    rw [Nat.mod_eq_of_lt (by simpa using h2)]
  | i + 1, r, h1, h2 => by
    rw [Nat.pow_succ] at h1 h2
    have hp : 0 < 10 ^ i := Nat.pow_pos (by omega)
    rw [Lib.decDigits, dif_neg (by omega), pad_dec i (r / 10) (by omega) (by omega), padL_snoc (i + 1)]
theorem padL_append : ∀ a x b y, y < 10 ^ b → padL (a + b) (x * 10 ^ b + y) = padL a x ++ padL b y
  | 0, x, b, y, h => by
    rw [Nat.zero_add]
    show _ = [] ++ _
    rw [List.nil_append]
    have : ∀ k, k ≤ b → padL k (x * 10 ^ b + y) = padL k y := by
      intro k
      induction k with
      | zero => intro _; rfl
      | succ k ih =>
        intro hk
        rw [padL, padL, ih (by omega)]
        congr 3
        have e : x * 10 ^ b = 10 ^ k * (10 * (x * 10 ^ (b - k - 1))) := by
          have : (10 : Nat) ^ b = 10 ^ k * (10 * 10 ^ (b - k - 1)) := by
            rw [← Nat.pow_succ', ← Nat.pow_add]
            congr 1
            omega
          rw [this]
          grind
        rw [e, Nat.mul_add_div (Nat.pow_pos (by omega)), Nat.mul_add_mod]
    exact this b (Nat.le_refl _)
  | a + 1, x, b, y, h => by
    rw [show a + 1 + b = (a + b) + 1 from by omega, padL, padL_append a x b y h, padL, List.cons_append]
    congr 3
    rw [Nat.pow_add, Nat.mul_comm (10 ^ a), ← Nat.div_div_eq_div_mul, Nat.mul_comm x, Nat.mul_add_div (Nat.pow_pos (by omega)), Nat.div_eq_of_lt h, Nat.add_zero]
end Nt

/-- What the outer loop keeps. -/
def TR (A B : Nat) (l : List UInt8) : Prop := (0 < B ∧ ∃ k L, A = B * 10 ^ (9 * k) + L ∧ L < 10 ^ (9 * k) ∧ l = padL (9 * k) L) ∨ (B = 0 ∧ l = Lib.decDigits A)
theorem TR.more {A B : Nat} {l : List UInt8} (h : TR A B l) (hB : 0 < B) (hq : 0 < B / 1000000000) : TR A (B / 1000000000) (padL 9 (B % 1000000000) ++ l) := by
  rcases h with ⟨_, k, L, h1, h2, rfl⟩ | ⟨h0, _⟩
  · refine Or.inl ⟨hq, k + 1, B % 1000000000 * 10 ^ (9 * k) + L, ?_, ?_, ?_⟩
    · have e := Nat.div_add_mod B 1000000000
      have e2 : (10 : Nat) ^ (9 * (k + 1)) = 10 ^ (9 * k) * 1000000000 := by rw [Nat.mul_add, Nat.pow_add]
      rw [e2, h1]
      conv => lhs; rw [← e]
      grind
    · have e2 : (10 : Nat) ^ (9 * (k + 1)) = 1000000000 * 10 ^ (9 * k) := by rw [Nat.mul_add, Nat.pow_add, Nat.mul_comm]
      have h3 : B % 1000000000 + 1 ≤ 1000000000 := Nat.mod_lt _ (by omega)
      have h4 : (B % 1000000000 + 1) * 10 ^ (9 * k) ≤ 1000000000 * 10 ^ (9 * k) := Nat.mul_le_mul_right _ h3
      rw [Nat.add_mul] at h4
      omega
    · rw [show 9 * (k + 1) = 9 + 9 * k from by omega, padL_append 9 _ (9 * k) L h2]
  · omega
theorem TR.last {A B : Nat} {l : List UInt8} (h : TR A B l) (hB : 0 < B) : TR A 0 (Lib.decDigits B ++ l) := by
  rcases h with ⟨_, k, L, h1, h2, rfl⟩ | ⟨h0, _⟩
  · exact Or.inr ⟨rfl, by rw [h1]; exact (dec_pad B hB (9 * k) L h2).symm⟩
  · omega

theorem TR.len {A B m : Nat} {l : List UInt8} (h : TR A B l) (hB : 0 < B) (hA : A < 2 ^ m) : l.length ≤ m := by
  rcases h with ⟨_, k, L, h1, h2, rfl⟩ | ⟨h0, _⟩
  · rw [padL_length]
    have e1 : 2 ^ (9 * k) ≤ 10 ^ (9 * k) := Nat.pow_le_pow_left (by omega) _
    have e2 : 1 * 10 ^ (9 * k) ≤ B * 10 ^ (9 * k) := Nat.mul_le_mul_right _ hB
    exact Nat.le_of_lt ((Nat.pow_lt_pow_iff_right (by omega : 1 < 2)).1 (Nat.lt_of_le_of_lt (by omega) hA))
  · omega
theorem conv_byte (W : World) (z : Int) (b : UInt8) (hz : z = (b.toNat : Int)) : (convert 87 9 (.slice (some ⟨W.heap.size, 0, none⟩) 1 1)).run Tryz.prog (W.alloc (.cells #[.int .u8 z] 5)) = .ok (.string ⟨#[b]⟩) (W.alloc (.cells #[.int .u8 z] 5)) := by
  subst hz
  refine run_convert_bytes_back (P := Tryz.prog) _ 87 9 5 ⟨W.heap.size, 0, none⟩ 1 [b] Tryz.underlying87 Tryz.underlying5 Tryz.underlying9 (fun j hj => ?_)
  obtain rfl : j = 0 := by simp at hj; omega
  rw [addr_add]
  have hl := heap_alloc_last W (.cells #[.int .u8 (b.toNat : Int)] 5)
  simp only [World.cell?]
  rw [hl]
  rfl
theorem str_cons (b : UInt8) (l : List UInt8) : ((⟨#[b]⟩ : ByteArray) ++ ⟨l.toArray⟩) = ⟨(b :: l).toArray⟩ := by
  apply ByteArray.ext
  simp [ByteArray.data_append]
theorem str_app (a l : List UInt8) : ((⟨a.toArray⟩ : ByteArray) ++ ⟨l.toArray⟩) = ⟨(a ++ l).toArray⟩ := by
  apply ByteArray.ext
  simp [ByteArray.data_append]

set_option maxHeartbeats 4000000 in
theorem rtext_c (w : World) (p : Option Addr) (n c : Nat) (xs : List Nat) (h : Sl w p n c xs) (hs : n ≤ 1048577) :
    Calls Tryz.prog 47 #[.slice p n c] w fun e w' => e = .returned (.string ⟨(Lib.decDigits (val xs)).toArray⟩) ∧ Below w.heap.size w w' := by
  have NM := rnorm_c w p n c xs h (by omega)
  have hdl := h.dl
  obtain ⟨A, hA⟩ : ∃ A, val xs = A := ⟨_, rfl⟩
  rw [hA] at NM hdl ⊢
  have HA2 := hid (show A < 2 ^ (32 * n) from by
    have h1 := lt_pow_digs A
    have h2 : (4294967296 : Nat) ^ (digs A).length ≤ 4294967296 ^ n := Nat.pow_le_pow_right (by omega) hdl
    have h3 : (4294967296 : Nat) ^ n = 2 ^ (32 * n) := by rw [Nat.pow_mul]
    omega)
  have HNM := hid NM
  clear h NM hA
  go_enter Tryz.func47, Tryz.ntmps47
  go_wp2_with fail
  refine HNM.out.mono ?_
  rintro e W1 ⟨r1, c1, rfl, A1⟩
  have HS1 := hid A1.sl
  have HB1 := hid A1.below
  clear A1 HNM
  by_cases hA0 : A = 0
  · have hl : (digs A).length = 0 := (digs_length_zero A).2 hA0
    rw [hl]
    go_wp2_with fail
    go_ret
    refine ⟨?_, HB1.out⟩
    rw [hA0, Lib.decDigits_one (by omega)]
    rfl
  · have hl : (digs A).length ≠ 0 := fun e => hA0 ((digs_length_zero A).1 e)
    have hlz : (((digs A).length : Int) == 0) = false := beq_eq_false_iff_ne.2 (by omega)
    go_wp2_with fail
    have HT0 : Hid (TR A A []) := Or.inl ⟨by omega, 0, 0, by simp, by simp, rfl⟩
    go_loopg [3, 4] A (fun gk s3 s4 wr => ∃ (B : Nat) (l : List UInt8) (r : Option Addr) (cr : Nat), B ≤ gk ∧ (digs B).length ≤ 1048577 ∧ s3 = .slice r (digs B).length cr ∧ s4 = .string ⟨l.toArray⟩ ∧ Hid (Sl wr r (digs B).length cr (digs B) ∧ Below w.heap.size w wr ∧ TR A B l))
    case atStart => exact ⟨A, [], r1, c1, Nat.le_refl _, by omega, rfl, rfl, HS1.out, HB1.out, HT0.out⟩
    case round =>
      obtain ⟨B, l, r, cr, hgk, hBl, rfl, rfl, HR⟩ := hrel
      by_cases hB : B = 0
      · subst hB
        have hz : (digs 0).length = 0 := rfl
        have hlA : l = Lib.decDigits A := by
          rcases HR.out.2.2 with ⟨h0, _⟩ | ⟨_, h⟩
          · omega
          · exact h
        have HB := hid HR.out.2.1
        have HLA := hid hlA
        clear HR hlA
        go_wp2_with fail
        go_ret
        rw [HLA.out]
        exact ⟨rfl, HB.out⟩
      · obtain ⟨L, hL⟩ : ∃ L, (digs B).length = L := ⟨_, rfl⟩
        have hL0 : L ≠ 0 := by rw [← hL]; exact fun e => hB ((digs_length_zero B).1 e)
        have SM := rsmall_c wr r L cr 1000000000 (digs B) (by rw [← hL]; exact HR.out.1) (by omega) (by omega) (by omega)
        rw [val_digs] at SM
        have HSM := hid SM
        rw [hL] at hBl ⊢
        have HL := hid hL
        have HBN := hid hB
        clear SM hL hB
        go_wp2_with fail
        refine HSM.out.mono ?_
        rintro e W2 ⟨r2, c2, rfl, A2⟩
        have HS2 := hid A2.sl
        have HB2 := hid A2.below
        clear A2 HSM
        obtain ⟨Q, hQ⟩ : ∃ Q, B / 1000000000 = Q := ⟨_, rfl⟩
        obtain ⟨R, hR⟩ : ∃ R, B % 1000000000 = R := ⟨_, rfl⟩
        have hRb : R < 1000000000 := by rw [← hR]; exact Nat.mod_lt _ (by omega)
        rw [hQ] at HS2 ⊢
        rw [hR]
        obtain ⟨LQ, hLQ⟩ : ∃ L, (digs Q).length = L := ⟨_, rfl⟩
        have hLQb : LQ ≤ L := by rw [← hLQ, ← HL.out, ← hQ]; exact digs_length_mono (Nat.div_le_self _ _)
        have hz := digs_length_zero Q
        rw [hLQ] at HS2 hz ⊢
        have HQ := hid (And.intro hQ (And.intro hR hLQ))
        clear hQ hR hLQ
        go_wp2_with fail
        obtain ⟨wo, hwo⟩ : ∃ wo : World, wo = wr := ⟨_, rfl⟩
        rw [← hwo] at HR HB2
        clear hwo
        go_loopg [6, 7, 8] 9 (fun gk s6 s7 s8 wr => ∃ i x : Nat, 9 - i ≤ gk ∧ i ≤ 9 ∧ s8 = .int .i64 i ∧ s6 = .int .u64 x ∧ x < 1000000000 ∧ s7 = .string ⟨(padL i R).toArray⟩ ∧ Hid (x = R / 10 ^ i ∧ Below W2.heap.size W2 wr ∧ (0 < i → Q = 0 → 0 < R / 10 ^ (i - 1))))
        case atStart => exact ⟨0, R, Nat.le_refl _, by omega, rfl, rfl, hRb, rfl, by simp, Below.refl _ _, fun h => by omega⟩
        case round =>
          obtain ⟨i, x, hg9, hi9, rfl, rfl, hx, rfl, HI⟩ := hrel
          by_cases hgo : i < 9 ∧ (0 < x ∨ 0 < LQ)
          · obtain ⟨hlt, hor⟩ := hgo
            obtain ⟨b, hb⟩ : ∃ b, UInt8.ofNat (48 + x % 10) = b := ⟨_, rfl⟩
            have hbz : 48 + (x : Int) % 10 = (b.toNat : Int) := by
              have e := ofNat_dig (d := x % 10) (Nat.mod_lt _ (by omega))
              rw [hb] at e
              omega
            have CV := conv_byte wr (48 + (x : Int) % 10) b hbz
            have HBB := hid hb
            obtain ⟨P, hP⟩ : ∃ P : ByteArray, (⟨(padL i R).toArray⟩ : ByteArray) = P := ⟨_, rfl⟩
            have hPs : P.size = i := by rw [← hP]; simp [ByteArray.size, padL_length]
            rw [hP]
            have HPP := hid hP
            clear hb hbz hP
            have NEXT : Hid (x / 10 = R / 10 ^ (i + 1) ∧ (⟨#[b]⟩ : ByteArray) ++ P = ⟨(padL (i + 1) R).toArray⟩ ∧ (0 < i + 1 → Q = 0 → 0 < R / 10 ^ (i + 1 - 1))) := by
              refine ⟨by rw [HI.out.1, Nat.div_div_eq_div_mul, Nat.pow_succ], ?_, fun _ hq => ?_⟩
              · rw [← HPP.out, str_cons, ← HBB.out, HI.out.1]; rfl
              · rw [Nat.add_sub_cancel, ← HI.out.1]
                rcases hor with h | h
                · exact h
                · have := hz.2 hq
                  omega
            rcases Nat.eq_zero_or_pos x with hx0 | hx0
            · have hLQ : 0 < LQ := by omega
              subst hx0
              have CV2 : (convert 87 9 (.slice (some ⟨wr.heap.size, 0, none⟩) 1 1)).run Tryz.prog (wr.alloc (.cells #[.int .u8 48] 5)) = .ok (.string ⟨#[b]⟩) (wr.alloc (.cells #[.int .u8 48] 5)) := CV
              clear CV
              go_wp2_with fail
              go_roundg (9 - (i + 1))
              case measure => omega
              case rel => exact ⟨i + 1, 0, Nat.le_refl _, by omega, by go_num, rfl, by omega, by rw [NEXT.out.2.1], NEXT.out.1, HI.out.2.1.alloc HI.out.2.1.size _, NEXT.out.2.2⟩
            · go_wp2_with fail
              go_roundg (9 - (i + 1))
              case measure => omega
              case rel => exact ⟨i + 1, x / 10, Nat.le_refl _, by omega, by go_num, by go_num, by omega, by rw [NEXT.out.2.1], NEXT.out.1, HI.out.2.1.alloc HI.out.2.1.size _, NEXT.out.2.2⟩
          · have hTR : Hid (TR A Q (padL i R ++ l) ∧ Q < B ∧ LQ ≤ 1048577) := by
              obtain ⟨q1, q2, q3⟩ := HQ.out
              have hBp : 0 < B := Nat.pos_of_ne_zero HBN.out
              refine ⟨?_, by omega, by omega⟩
              rcases Nat.eq_zero_or_pos Q with hq | hq
              · have hRB : R = B := by omega
                have hx0 : R / 10 ^ i = 0 := by
                  rcases Nat.lt_or_ge i 9 with h | h
                  · rw [← HI.out.1]
                    have := hz.2 hq
                    omega
                  · obtain rfl : i = 9 := by omega
                    exact Nat.div_eq_of_lt hRb
                have hi0 : 0 < i := by
                  rcases Nat.eq_zero_or_pos i with h | h
                  · rw [h, Nat.pow_zero, Nat.div_one] at hx0
                    omega
                  · exact h
                have h1 := HI.out.2.2 hi0 hq
                have h2 : 10 ^ (i - 1) ≤ R := by
                  apply Classical.byContradiction
                  intro hc
                  rw [Nat.div_eq_of_lt (by omega)] at h1
                  omega
                have h3 : R < 10 ^ i := by
                  apply Classical.byContradiction
                  intro hc
                  have := Nat.div_pos (Nat.le_of_not_lt hc) (Nat.pow_pos (n := i) (by omega : 0 < 10))
                  omega
                have e := pad_dec (i - 1) R h2 (by rw [show i - 1 + 1 = i from by omega]; exact h3)
                rw [show i - 1 + 1 = i from by omega] at e
                rw [hq, ← e, hRB]
                exact HR.out.2.2.last hBp
              · have hi9' : i = 9 := by
                  have h0 : LQ ≠ 0 := fun e => by have := hz.1 e; omega
                  omega
                rw [hi9', ← q2, ← q1]
                exact HR.out.2.2.more hBp (by omega)
            have hll : l.length ≤ 33554464 := by
              have := TR.len HR.out.2.2 (Nat.pos_of_ne_zero HBN.out) (HA2.out)
              omega
            have HX := hid HI.out.2.1
            obtain ⟨P, hP⟩ : ∃ P : ByteArray, (⟨(padL i R).toArray⟩ : ByteArray) = P := ⟨_, rfl⟩
            have hPs : P.size = i := by rw [← hP]; simp [ByteArray.size, padL_length]
            obtain ⟨S, hS⟩ : ∃ S : ByteArray, (⟨l.toArray⟩ : ByteArray) = S := ⟨_, rfl⟩
            have hSs : S.size ≤ 33554464 := by rw [← hS]; simp [ByteArray.size]; exact hll
            have HCC : Hid (P ++ S = ⟨(padL i R ++ l).toArray⟩) := by rw [← hP, ← hS]; exact str_app _ _
            rw [hP, hS]
            clear hP hS hll
            have DONE : Hid (Below w.heap.size w wr ∧ Sl wr r2 LQ c2 (digs Q) ∧ (digs Q).length = LQ) := ⟨HR.out.2.1.trans ((HB2.out.trans (HX.out.mono HB2.out.size)).mono HR.out.2.1.size), HS2.out.below HX.out, HQ.out.2.2⟩
            rcases Nat.lt_or_ge i 9 with h9 | h9
            · have hx0 : x = 0 := by omega
              have hLQ0 : LQ = 0 := by omega
              subst hx0
              subst hLQ0
              clear hgo
              go_wp2_with fail
              go_roundg Q
              case measure => have := hTR.out.2.1; omega
              case rel => exact ⟨Q, padL i R ++ l, r2, c2, Nat.le_refl _, by rw [DONE.out.2.2]; exact hTR.out.2.2, by rw [DONE.out.2.2], by rw [HCC.out], by rw [DONE.out.2.2]; exact DONE.out.2.1, DONE.out.1, hTR.out.1⟩
            · have hi9' : i = 9 := by omega
              subst hi9'
              clear hgo
              go_wp2_with fail
              go_roundg Q
              case measure => have := hTR.out.2.1; omega
              case rel => exact ⟨Q, padL 9 R ++ l, r2, c2, Nat.le_refl _, by rw [DONE.out.2.2]; exact hTR.out.2.2, by rw [DONE.out.2.2], by rw [HCC.out], by rw [DONE.out.2.2]; exact DONE.out.2.1, DONE.out.1, hTR.out.1⟩
end Go.Proofs.YtaplbadcpbollaaGreatDoor
