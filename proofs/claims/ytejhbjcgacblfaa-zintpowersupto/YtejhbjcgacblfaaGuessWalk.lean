/-
  nat.guess.
-/
import Derived.Test.YtejhbjcgacblfaaGuess
import Derived.Test.YtejhbjcgacblfaaAwake
namespace Go.Proofs.Ytejhbjcgacblfaa
open Go.RowKit Nt
set_option linter.unusedSimpArgs false
set_option linter.unusedVariables false

theorem top_two {xs : List Nat} {n : Nat} (ho : Ok xs) (hl : xs.length = n + 2) : ∃ low, low < 4294967296 ^ n ∧ val xs = low + 4294967296 ^ n * (xs.getD n 0 + 4294967296 * xs.getD (n + 1) 0) := by
  have h1 := val_take_succ xs n (by omega)
  have h2 := val_take_succ xs (n + 1) (by omega)
  rw [List.take_of_length_le (by omega), h1, Nat.pow_succ] at h2
  have h3 := val_lt (ho.take n)
  rw [List.length_take, Nat.min_eq_left (by omega)] at h3
  refine ⟨_, h3, ?_⟩
  rw [h2, Nat.mul_add, Nat.mul_assoc]
  omega
theorem top_one {xs : List Nat} {n : Nat} (ho : Ok xs) (hl : xs.length = n + 1) : ∃ low, low < 4294967296 ^ n ∧ val xs = low + 4294967296 ^ n * xs.getD n 0 := by
  have h1 := val_take_succ xs n (by omega)
  rw [List.take_of_length_le (by omega)] at h1
  have h3 := val_lt (ho.take n)
  rw [List.length_take, Nat.min_eq_left (by omega)] at h3
  exact ⟨_, h3, h1⟩

/-- What guess finds: the digit, or one more. -/
structure Gs (U V d : Nat) : Prop where
  low : U / V ≤ d
  high : d ≤ U / V + 1
  lim : d < 4294967296

structure GsIn (U V T F S u2 k : Nat) : Prop where
  hT : U < (T + 1) * 4294967296 ^ (k + 1)
  h3l : (T * 4294967296 + u2) * 4294967296 ^ k ≤ U
  h3u : U < (T * 4294967296 + u2 + 1) * 4294967296 ^ k
  hF : F * 4294967296 ^ (k + 1) ≤ V
  h2l : (F * 4294967296 + S) * 4294967296 ^ k ≤ V
  h2u : V < (F * 4294967296 + S + 1) * 4294967296 ^ k
  hTF : T ≤ F * 4294967296 + 4294967295

theorem gs_in {us vs : List Nat} {k : Nat} (hou : Ok us) (hov : Ok vs) (hlu : us.length = k + 3) (hlv : vs.length = k + 2) (hlt : val us < val vs * 4294967296) :
    GsIn (val us) (val vs) (us.getD (k + 2) 0 * 4294967296 + us.getD (k + 1) 0) (vs.getD (k + 1) 0) (vs.getD k 0) (us.getD k 0) k := by
  obtain ⟨l1, b1, e1⟩ := top_two (n := k + 1) hou hlu
  obtain ⟨l2, b2, e2⟩ := top_two (n := k) hov hlv
  obtain ⟨l3, b3, e3⟩ := top_one (n := k + 1) hov hlv
  have e1' : val us = val (us.take k) + 4294967296 ^ k * us.getD k 0 + 4294967296 ^ (k + 1) * (us.getD (k + 1) 0 + 4294967296 * us.getD (k + 2) 0) := by
    have h1 := val_take_succ us k (by omega)
    have h2 := val_take_succ us (k + 1) (by omega)
    have h3 := val_take_succ us (k + 2) (by omega)
    rw [List.take_of_length_le (by omega), h2, h1, Nat.pow_succ (n := 4294967296) (m := k + 1)] at h3
    rw [h3, Nat.mul_add, Nat.mul_assoc]
    omega
  have b0 := val_lt (hou.take k)
  rw [List.length_take, Nat.min_eq_left (by omega)] at b0
  have hF1 := hov.getD (k + 1)
  generalize us.getD k 0 = u2 at *
  have hu1 := hou.getD (k + 1)
  generalize us.getD (k + 1) 0 = u1 at *
  generalize us.getD (k + 2) 0 = u0 at *
  generalize vs.getD (k + 1) 0 = F at *
  generalize vs.getD k 0 = S at *
  generalize val (us.take k) = l0 at *
  generalize val us = U at *
  generalize val vs = V at *
  rw [Nat.pow_succ] at *
  generalize hK : 4294967296 ^ k = K at *
  have c1 : K * 4294967296 * (u1 + 4294967296 * u0) = (u0 * 4294967296 + u1) * (K * 4294967296) := by rw [Nat.mul_comm, Nat.add_comm, Nat.mul_comm 4294967296 u0]
  have c2 : K * (S + 4294967296 * F) = (F * 4294967296 + S) * K := by rw [Nat.mul_comm, Nat.add_comm, Nat.mul_comm 4294967296 F]
  have c3 : K * u2 = u2 * K := Nat.mul_comm _ _
  have c4 : (u0 * 4294967296 + u1) * (K * 4294967296) = (u0 * 4294967296 + u1) * 4294967296 * K := by rw [Nat.mul_comm K, Nat.mul_assoc]
  have c5 : K * 4294967296 * F = F * (K * 4294967296) := Nat.mul_comm _ _
  obtain ⟨T, hT⟩ : ∃ T, u0 * 4294967296 + u1 = T := ⟨_, rfl⟩
  rw [hT] at c1 c4
  rw [hT]
  refine ⟨?_, ?_, ?_, ?_, ?_, ?_, ?_⟩
  all_goals (try rw [Nat.pow_succ])
  all_goals (try rw [hK])
  all_goals clear hK
  · rw [Nat.add_mul, Nat.one_mul]; omega
  · rw [Nat.add_mul]; omega
  · rw [Nat.add_mul, Nat.add_mul, Nat.one_mul]; omega
  · omega
  · omega
  · rw [Nat.add_mul (F * 4294967296 + S) 1, Nat.one_mul]; omega
  · apply Classical.byContradiction
    intro hc
    have hu0 : F + 1 ≤ u0 := by omega
    have d1 : (F + 1) * 4294967296 * (K * 4294967296) ≤ T * (K * 4294967296) := Nat.mul_le_mul_right _ (by omega)
    have d2 : V * 4294967296 ≤ (F + 1) * (K * 4294967296) * 4294967296 := Nat.mul_le_mul_right _ (by rw [Nat.add_mul, Nat.one_mul]; omega)
    have d3 : (F + 1) * (K * 4294967296) * 4294967296 = (F + 1) * 4294967296 * (K * 4294967296) := by rw [Nat.mul_assoc, Nat.mul_comm (K * 4294967296), ← Nat.mul_assoc]
    omega

/-- The end of the loop: three limbs don't say that it is too much. -/
theorem gs_end {U V T F S u2 k d r : Nat} (G : GsIn U V T F S u2 k) (hV : 0 < V) (hF : 2147483648 ≤ F) (hS : S < 4294967296) (hdr : d * F + r = T) (hlow : U / V ≤ d) (hd : d < 4294967296) (ht : d * S ≤ r * 4294967296 + u2) : Gs U V d := by
  refine ⟨hlow, ?_, hd⟩
  have hq : U < (U / V + 1) * V := by
    have := Nat.lt_mul_div_succ U hV
    rw [Nat.mul_comm] at this
    exact this
  refine guess_end G.h3l G.h2u ?_ (by omega) hq
  rw [Nat.mul_add, ← Nat.mul_assoc, ← hdr, Nat.add_mul]
  omega
theorem gs_down {U V T F S u2 k d r : Nat} (G : GsIn U V T F S u2 k) (hV : 0 < V) (hdr : d * F + r = T) (hlt : U < V * 4294967296) (ht : 4294967296 ≤ d ∨ r * 4294967296 + u2 < d * S) : U / V < d := by
  rcases ht with h | h
  · have : U / V < 4294967296 := (Nat.div_lt_iff_lt_mul hV).2 (by omega)
    omega
  · have h3 : T * 4294967296 + u2 < d * (F * 4294967296 + S) := by
      have e1 : d * (F * 4294967296 + S) = d * F * 4294967296 + d * S := by rw [Nat.mul_add d (F * 4294967296) S, ← Nat.mul_assoc d F 4294967296]
      have e2 : T * 4294967296 = d * F * 4294967296 + r * 4294967296 := by rw [← hdr, Nat.add_mul (d * F) r 4294967296]
      rw [e1, e2, Nat.add_assoc (d * F * 4294967296) (r * 4294967296) u2]
      exact Nat.add_lt_add_left h _
    exact guess_down (u3 := T * 4294967296 + u2) (v2 := F * 4294967296 + S) (K := 4294967296 ^ k) G.h3u G.h2l h3 (Nat.div_mul_le_self U V)

set_option maxHeartbeats 4000000 in
theorem guess_c (w : World) (p q : Option Addr) (n m c d : Nat) (us vs : List Nat) (hu : Sl w p m c us) (hv : Sl w q n d vs) (hm : m = n + 1) (hn2 : 2 ≤ n) (htop : 2147483648 ≤ vs.getD (n - 1) 0) (hlt : val us < val vs * 4294967296) (hV : 0 < val vs) :
    Calls Try.prog 74 #[.slice p m c, .slice q n d] w fun e w' => ∃ x : Nat, Gs (val us) (val vs) x ∧ e = .returned (.int .u32 x) ∧ ∃ nq, w' = w.drewN nq := by
  subst hm
  obtain ⟨k, rfl⟩ : ∃ k, n = k + 2 := ⟨n - 2, by omega⟩
  have G := gs_in hu.ok hv.ok hu.len hv.len hlt
  have htop' : 2147483648 ≤ vs.getD (k + 1) 0 := htop
  obtain ⟨bu, ou, epu, c0⟩ := hu.lie (k + 2) (by rw [hu.len]; omega)
  have c1 : w.cell? ⟨bu, ou + (k + 1), none⟩ = some (.int .u32 (us.getD (k + 1) 0)) := by
    obtain ⟨b', o', e', h'⟩ := hu.lie (k + 1) (by rw [hu.len]; omega)
    rw [epu] at e'; simp only [Option.some.injEq, Addr.mk.injEq] at e'; obtain ⟨rfl, rfl, _⟩ := e'; exact h'
  have c2 : w.cell? ⟨bu, ou + k, none⟩ = some (.int .u32 (us.getD k 0)) := by
    obtain ⟨b', o', e', h'⟩ := hu.lie k (by rw [hu.len]; omega)
    rw [epu] at e'; simp only [Option.some.injEq, Addr.mk.injEq] at e'; obtain ⟨rfl, rfl, _⟩ := e'; exact h'
  obtain ⟨bv, ov, epv, d1⟩ := hv.lie (k + 1) (by rw [hv.len]; omega)
  have d0 : w.cell? ⟨bv, ov + k, none⟩ = some (.int .u32 (vs.getD k 0)) := by
    obtain ⟨b', o', e', h'⟩ := hv.lie k (by rw [hv.len]; omega)
    rw [epv] at e'; simp only [Option.some.injEq, Addr.mk.injEq] at e'; obtain ⟨rfl, rfl, _⟩ := e'; exact h'
  have b0 := hu.ok.getD (k + 2)
  have b1 := hu.ok.getD (k + 1)
  have b2 := hu.ok.getD k
  have b3 := hv.ok.getD (k + 1)
  have b4 := hv.ok.getD k
  have hcu := hu.cap
  have hcv := hv.cap
  have hmu := hu.max
  have hmv := hv.max
  unfold maxLen at hmu hmv
  clear htop hu hv
  generalize us.getD (k + 2) 0 = u0 at *
  generalize us.getD (k + 1) 0 = u1 at *
  generalize us.getD k 0 = u2 at *
  generalize vs.getD (k + 1) 0 = F at *
  generalize vs.getD k 0 = S at *
  generalize val us = U at *
  generalize val vs = V at *
  obtain ⟨T, hT⟩ : ∃ T, u0 * 4294967296 + u1 = T := ⟨_, rfl⟩
  rw [hT] at G
  have hor : bits .or .u64 ((u0 : Int) * 4294967296) (u1 : Int) = (T : Int) := by rw [or64' u1 u0 b1 b0, ← hT]; omega
  have hTb : T < 18446744073709551616 := by omega
  obtain ⟨D0, hD0⟩ : ∃ D0, T / F = D0 := ⟨_, rfl⟩
  obtain ⟨R0, hR0⟩ : ∃ R0, T % F = R0 := ⟨_, rfl⟩
  have hDi : (T : Int) / (F : Int) = (D0 : Int) := by rw [← hD0]; simp
  have hRi : (T : Int).tmod (F : Int) = (R0 : Int) := by rw [← hR0]; exact (Int.ofNat_tmod T F).symm
  have hRi2 : (T : Int) % (F : Int) = (R0 : Int) := by rw [← hR0]; simp
  have hF0 : ((F : Int) == 0) = false := beq_eq_false_iff_ne.2 (by omega)
  have hTF := G.hTF
  have hD0b : D0 ≤ 4294967297 := by
    rw [← hD0]
    have h1 : T < F * 4294967298 := by omega
    have := (Nat.div_lt_iff_lt_mul (show 0 < F by omega)).2 (show T < 4294967298 * F by omega)
    omega
  have hR0b : R0 < 4294967296 := by have := Nat.mod_lt T (show 0 < F by omega); omega
  have hDR : Hid (D0 * F + R0 = T ∧ U / V ≤ D0) := by
    refine ⟨by rw [← hD0, ← hR0, Nat.mul_comm]; exact Nat.div_add_mod T F, ?_⟩
    rw [← hD0]
    exact guess_first (K := 4294967296 ^ (k + 1)) G.hT G.hF (Nat.pow_pos (by omega)) (Nat.div_mul_le_self U V) (by omega)
  have HG := hid G
  have HLT := hid hlt
  have HTF := hid hTF
  subst epu
  subst epv
  clear G hlt hT hD0 hR0 hTF
  go_enter Try.func74, Try.ntmps74
  go_wp2_with fail
  go_quiet (fail)
  go_wp2_with fail
  go_quiet (fail)
  go_wp2_with fail
  go_quiet (fail)
  go_wp2_with fail
  go_loopw [9, 10] (fun v1 v2 wr => ∃ D R : Nat, v1 = .int .u64 D ∧ v2 = .int .u64 R ∧ D ≤ 4294967297 ∧ R < 4294967296 ∧ Hid (D * F + R = T ∧ U / V ≤ D ∧ ∃ nq, wr = w.drewN nq)) (fun v1 _ _ => (intOf v1).toNat)
  case atStart =>
    refine ⟨D0, R0, ?_, ?_, hD0b, hR0b, hDR.out.1, hDR.out.2, ?_⟩
    · first | rfl | (rw [IntKind.wrap_u64]; congr 1; omega)
    · first | rfl | go_num
    · first | exact dr1 _ _ | exact dr2 _ _ _ | exact dr3 _ _ _ _
  case round =>
    obtain ⟨D, R, rfl, rfl, hD, hR, HR⟩ := hrel
    obtain ⟨nq, hwr⟩ := HR.out.2.2
    subst hwr
    obtain ⟨DS, hDS⟩ : ∃ DS, D * S = DS := ⟨_, rfl⟩
    have hDSb : DS < 18446744073709551616 := by
      rw [← hDS]
      have : D * S ≤ 4294967297 * 4294967295 := Nat.mul_le_mul hD (by omega)
      omega
    have hDSi : (D : Int) * (S : Int) = (DS : Int) := by rw [← hDS]; simp
    obtain ⟨RR, hRR⟩ : ∃ RR, R * 4294967296 + u2 = RR := ⟨_, rfl⟩
    have hRRi : bits .or .u64 ((R : Int) * 4294967296) (u2 : Int) = (RR : Int) := by rw [or64' u2 R b2 hR, ← hRR]; omega
    have HDS := hid hDS
    have HRR := hid hRR
    clear hDS hRR
    by_cases htest : 4294967296 ≤ D ∨ RR < DS
    · have hlow := gs_down HG.out hV HR.out.1 HLT.out (by rcases htest with h | h; exact Or.inl h; exact Or.inr (by rw [HRR.out, HDS.out]; exact h))
      have hD1 : 1 ≤ D := Nat.lt_of_le_of_lt (Nat.zero_le _) hlow
      have HLOW := hid hlow
      clear hlow
      have hend : Hid (4294967296 ≤ R + F → Gs U V (D - 1)) := by
        intro hb
        have hr := HR.out.1
        have e1 : (D - 1) * F + (R + F) = T := by
          obtain ⟨E, rfl⟩ : ∃ E, D = E + 1 := ⟨D - 1, by omega⟩
          rw [Nat.add_sub_cancel, ← hr, Nat.add_mul E 1 F, Nat.one_mul]; omega
        have hlt2 : D - 1 < 4294967296 := by
          apply Classical.byContradiction
          intro hc
          have h1 : 4294967296 * F ≤ (D - 1) * F := Nat.mul_le_mul_right _ (by omega)
          have h2 := HTF.out
          omega
        refine gs_end HG.out hV htop' b4 e1 (by have := HLOW.out; omega) hlt2 ?_
        have h3 : (D - 1) * S ≤ 4294967296 * 4294967296 := Nat.mul_le_mul (by omega) (by omega)
        have h4 : 4294967296 * 4294967296 ≤ (R + F) * 4294967296 := Nat.mul_le_mul_right _ hb
        omega
      have hnext : Hid (R + F < 4294967296 → (D - 1) * F + (R + F) = T ∧ U / V ≤ D - 1) := by
        intro _
        have hr := HR.out.1
        refine ⟨?_, by have := HLOW.out; omega⟩
        obtain ⟨E, rfl⟩ : ∃ E, D = E + 1 := ⟨D - 1, by omega⟩
        rw [Nat.add_sub_cancel, ← hr, Nat.add_mul E 1 F, Nat.one_mul]; omega
      have fin : ∀ b : Prop, True := fun _ => trivial
      clear fin
      by_cases hover : 4294967296 ≤ R + F
      · have ho : (((R : Int) + (F : Int)) / 4294967296 != 0) = true := by rw [bne_iff_ne]; omega
        by_cases hbig : 4294967296 ≤ D
        · have hb : ((D : Int) / 4294967296 != 0) = true := by rw [bne_iff_ne]; omega
          go_wp2
          go_ret
          exact ⟨D - 1, hend.out hover, ret_int (by have := (hend.out hover).lim; omega), dr1 _ _⟩
        · have hb : ((D : Int) / 4294967296 != 0) = false := by rw [bne_eq_false_iff_eq]; omega
          have ht : RR < DS := by omega
          go_wp2
          go_ret
          exact ⟨D - 1, hend.out hover, ret_int (by have := (hend.out hover).lim; omega), dr1 _ _⟩
      · have ho : (((R : Int) + (F : Int)) / 4294967296 != 0) = false := by rw [bne_eq_false_iff_eq]; omega
        by_cases hbig : 4294967296 ≤ D
        · have hb : ((D : Int) / 4294967296 != 0) = true := by rw [bne_iff_ne]; omega
          go_wp2
          go_roundw
          case rel => exact ⟨D - 1, R + F, by go_num, by go_num, by omega, by omega, (hnext.out (by omega)).1, (hnext.out (by omega)).2, dr1 _ _⟩
          case measure => simp [intOf]; omega
        · have hb : ((D : Int) / 4294967296 != 0) = false := by rw [bne_eq_false_iff_eq]; omega
          have ht : RR < DS := by omega
          go_wp2
          go_roundw
          case rel => exact ⟨D - 1, R + F, by go_num, by go_num, by omega, by omega, (hnext.out (by omega)).1, (hnext.out (by omega)).2, dr1 _ _⟩
          case measure => simp [intOf]; omega
    · have hbig : D < 4294967296 := by omega
      have hb : ((D : Int) / 4294967296 != 0) = false := by rw [bne_eq_false_iff_eq]; omega
      have ht : DS ≤ RR := by omega
      have HE := hid (gs_end HG.out hV htop' b4 HR.out.1 HR.out.2.1 hbig (by rw [HDS.out, HRR.out]; exact ht))
      go_wp2
      go_ret
      exact ⟨D, HE.out, ret_int (by omega), dr1 _ _⟩
end Go.Proofs.Ytejhbjcgacblfaa
