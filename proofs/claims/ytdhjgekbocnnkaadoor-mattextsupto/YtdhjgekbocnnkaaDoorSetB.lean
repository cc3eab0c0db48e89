import Derived.Test.YtdhjgekbocnnkaaDoorSetA
import Derived.Test.YtdhjgekbocnnkaaDoorSetK
import Derived.Test.YtdhjgekbocnnkaaDoorBits
import Derived.Test.YtdhjgekbocnnkaaDoorSetU
/-
  nat.divSmall: by one limb, in place.
-/
namespace Go.Proofs.YtdhjgekbocnnkaaDoor
open Go.RowKit Nt
set_option linter.unusedSimpArgs false
set_option linter.unusedVariables false
set_option maxRecDepth 20000

theorem divs_step {x V D d r q r' : Nat} (h : V = d * D + r) (hq : x + 4294967296 * r = d * q + r') : x + 4294967296 * V = d * (q + 4294967296 * D) + r' := by
  rw [h, Nat.mul_add, Nat.mul_add]
  have : 4294967296 * (d * D) = d * (4294967296 * D) := by rw [← Nat.mul_assoc, Nat.mul_comm 4294967296 d, Nat.mul_assoc]
  omega

set_option maxHeartbeats 4000000 in
theorem divSmall_c (w : World) (g : Nat) (A post : List Nat) (n c d : Nat) (hn : A.length = n) (hnc : n ≤ c) (hcm : c ≤ maxLen) (hg : Blk w g (A ++ post)) (hA : Ok A) (hd0 : 0 < d) (hd : d < 4294967296) :
    Calls Tryd.prog 67 #[.slice (some ⟨g, 0, none⟩) n c, .int .u32 d] w fun e w' =>
      ∃ Z : List Nat, Z.length = n ∧ Ok Z ∧ val Z = val A / d ∧ e = .returned (.int .u32 (val A % d : Nat)) ∧ Wr w g (Z ++ post) w' := by
  have HN := hid hn
  have HG := hid hg
  have HA := hid hA
  unfold maxLen at hcm
  have hdi : ((d : Int) == 0) = false := beq_eq_false_iff_ne.2 (by omega)
  clear hn hg hA
  go_enter Tryd.func67, Tryd.ntmps67
  go_wp2_with fail
  go_loopw [5, 10] (fun v i wr => ∃ k r : Nat, k ≤ n ∧ i = .int .i64 k ∧ r < d ∧ v = .int .u64 r ∧ ∃ D : List Nat, Hid (D.length = k ∧ Ok D ∧ val (A.drop (n - k)) = d * val D + r ∧ Wr w g (A.take (n - k) ++ D ++ post) wr)) (fun _ i _ => n - (intOf i).toNat)
  case atStart =>
    refine ⟨0, 0, Nat.zero_le _, rfl, hd0, rfl, [], rfl, Ok.nil, ?_, ?_⟩
    · rw [Nat.sub_zero, List.drop_of_length_le (by rw [HN.out]; exact Nat.le_refl _)]; simp [val]
    · rw [Nat.sub_zero, List.take_of_length_le (by rw [HN.out]; exact Nat.le_refl _), List.append_nil]; exact Wr.refl HG.out
  case round =>
    obtain ⟨k, r, hk, rfl, hr, rfl, D, HD⟩ := hrel
    by_cases hlt : k < n
    · have hblk := Wr.blk HG.out HD.out.2.2.2
      have hlt2 : n - 1 - k < (A.take (n - k) ++ D ++ post).length := by have := HN.out; have := HD.out.1; simp; omega
      have hc1 := hblk.cell (n - 1 - k) hlt2
      have hf1 := hblk.frozen (n - 1 - k)
      have hgx : (A.take (n - k) ++ D ++ post).getD (n - 1 - k) 0 = A.getD (n - 1 - k) 0 := by
        have h1 : n - 1 - k < (A.take (n - k)).length := by have := HN.out; simp; omega
        rw [List.getD_eq_getElem?_getD, List.getD_eq_getElem?_getD, List.append_assoc, List.getElem?_append_left h1, List.getElem?_take, if_pos (by omega)]
      rw [hgx] at hc1
      obtain ⟨x, hx⟩ : ∃ x, A.getD (n - 1 - k) 0 = x := ⟨_, rfl⟩
      rw [hx] at hc1
      have hxb : x < 4294967296 := by rw [← hx]; exact HA.out.getD _
      have hrb : r < 4294967296 := by omega
      obtain ⟨B, hB⟩ : ∃ B, x + 4294967296 * r = B := ⟨_, rfl⟩
      have hor : bits .or .u64 ((r : Int) * 4294967296) (x : Int) = (B : Int) := by rw [or64' x r hxb hrb, hB]
      have hBb : B < 18446744073709551616 := by omega
      obtain ⟨q, hq⟩ : ∃ q, B / d = q := ⟨_, rfl⟩
      obtain ⟨r', hr'⟩ : ∃ r', B % d = r' := ⟨_, rfl⟩
      have hqi : (B : Int) / (d : Int) = (q : Int) := by rw [← hq]; simp
      have hri : (B : Int).tmod (d : Int) = (r' : Int) := by rw [← hr']; exact (Int.ofNat_tmod B d).symm
      have hri2 : (B : Int) % (d : Int) = (r' : Int) := by rw [← hr']; simp
      have hqb : q < 4294967296 := by
        rw [← hq]
        apply Nat.div_lt_of_lt_mul
        rw [← hB]
        have : 4294967296 * (r + 1) ≤ 4294967296 * d := Nat.mul_le_mul_left _ hr
        rw [Nat.mul_comm d]
        omega
      have hrd : r' < d := by rw [← hr']; exact Nat.mod_lt _ hd0
      have HXK := hid hx
      have HBE := hid (show x + 4294967296 * r = d * q + r' from by rw [hB, ← hq, ← hr']; exact (Nat.div_add_mod B d).symm)
      clear hx hB hq hr' hgx hlt2 hblk
      go_wp2
      go_roundw
      case rel =>
        obtain ⟨d1, d2, d3, d4⟩ := HD.out
        have hidx : n - (k + 1) = n - 1 - k := by omega
        have hdr : A.drop (n - 1 - k) = x :: A.drop (n - k) := by
          rw [drop_cons A (n - 1 - k) (by rw [HN.out]; omega), HXK.out]; congr 2; omega
        refine ⟨k + 1, r', by omega, by go_num, hrd, by first | rfl | go_num, q :: D, by simp [d1], Ok.cons hqb d2, ?_, ?_⟩
        · rw [hidx, hdr]
          simp only [val]
          exact divs_step d3 HBE.out
        · have w1 := Wr.set HG.out d4 (n - 1 - k) q
          have et : A.take (n - k) = A.take (n - 1 - k) ++ [x] := by
            rw [show n - k = n - 1 - k + 1 from by omega, List.take_succ_eq_append_getElem (by rw [HN.out]; omega)]
            have : A[n - 1 - k]'(by rw [HN.out]; omega) = x := by rw [← HXK.out]; simp [List.getD_eq_getElem?_getD, show n - 1 - k < A.length from by rw [HN.out]; omega]
            rw [this]
          have s1 := set_mid (A.take (n - 1 - k)) [] D post 0 x q rfl
          have el : (A.take (n - 1 - k)).length = n - 1 - k := by simp; have := HN.out; omega
          rw [el] at s1
          simp only [List.nil_append, Nat.add_zero] at s1
          rw [et, List.append_assoc (A.take (n - 1 - k)) [x] D, List.singleton_append, s1] at w1
          rw [hidx]
          simpa using w1
      case measure => simp [intOf]; omega
    · obtain ⟨d1, d2, d3, d4⟩ := HD.out
      have hkn : k = n := by omega
      rw [hkn, Nat.sub_self, List.drop_zero] at d3
      rw [hkn, Nat.sub_self, List.take_zero, List.nil_append] at d4
      rw [hkn] at d1
      have hq : val D = val A / d := by rw [d3, Nat.mul_add_div hd0, Nat.div_eq_of_lt hr, Nat.add_zero]
      have hm : val A % d = r := by rw [d3, Nat.mul_add_mod, Nat.mod_eq_of_lt hr]
      have HF := hid (And.intro d1 (And.intro d2 (And.intro hq (And.intro hm d4))))
      clear d1 d2 d3 d4 hkn hq hm
      go_wp2
      go_ret
      obtain ⟨f1, f2, f3, f4, f5⟩ := HF.out
      exact ⟨D, f1, f2, f3, by rw [f4]; rfl, f5⟩
end Go.Proofs.YtdhjgekbocnnkaaDoor

/-
  nat.takeTimes: a multiple taken off in place, round the end.
-/
namespace Go.Proofs.YtdhjgekbocnnkaaDoor
open Go.RowKit Nt
set_option linter.unusedSimpArgs false
set_option linter.unusedVariables false
set_option maxRecDepth 20000

theorem take_step {P VZ VV VA f x y z c c' : Nat} (h : VZ + VV * f = VA + P * c) (hs : z + y * f + c = x + 4294967296 * c') : VZ + P * z + (VV + P * y) * f = VA + P * x + P * 4294967296 * c' := by
  have h2 : P * (z + y * f + c) = P * (x + 4294967296 * c') := by rw [hs]
  rw [Nat.mul_add, Nat.mul_add, Nat.mul_add, ← Nat.mul_assoc, ← Nat.mul_assoc] at h2
  rw [Nat.add_mul]
  omega

end Go.Proofs.YtdhjgekbocnnkaaDoor

/-
  nat.guess: the digit, or one more: the mathematics.
-/
namespace Go.Proofs.YtdhjgekbocnnkaaDoor
open Go.RowKit Nt
set_option linter.unusedSimpArgs false
set_option linter.unusedVariables false
set_option maxRecDepth 20000

/-- The first guess is not below the digit. -/
theorem guess_first {U V T F K q : Nat} (hU : U < (T + 1) * K) (hV : F * K ≤ V) (hK : 0 < K) (hq : q * V ≤ U) (hF : 0 < F) : q ≤ T / F := by
  rw [Nat.le_div_iff_mul_le hF]
  apply Classical.byContradiction
  intro hc
  have h1 : (T + 1) * K ≤ q * F * K := Nat.mul_le_mul_right _ (by omega)
  have h2 : q * (F * K) ≤ q * V := Nat.mul_le_mul_left _ hV
  rw [← Nat.mul_assoc] at h2
  omega

/-- If three limbs say that it is too much, it is. -/
theorem guess_down {U V u3 v2 K d q : Nat} (hU : U < (u3 + 1) * K) (hV : v2 * K ≤ V) (hd : u3 < d * v2) (hq : q * V ≤ U) : q < d := by
  apply Classical.byContradiction
  intro hc
  have h1 : d * V ≤ q * V := Nat.mul_le_mul_right _ (by omega)
  have h2 : d * (v2 * K) ≤ d * V := Nat.mul_le_mul_left _ hV
  rw [← Nat.mul_assoc] at h2
  have h3 : (u3 + 1) * K ≤ d * v2 * K := Nat.mul_le_mul_right _ hd
  omega

/-- If three limbs don't say so, it is one too much at most. -/
theorem guess_end {U V u3 v2 K d q : Nat} (hU : u3 * K ≤ U) (hV : V < (v2 + 1) * K) (hd : d * v2 ≤ u3) (hdv : d ≤ v2) (hq : U < (q + 1) * V) : d ≤ q + 1 := by
  apply Classical.byContradiction
  intro hc
  obtain ⟨e, rfl⟩ : ∃ e, d = e + 1 := ⟨d - 1, by omega⟩
  have h1 : (q + 1) * V ≤ e * V := Nat.mul_le_mul_right _ (by omega)
  have h2 : e * V ≤ e * ((v2 + 1) * K) := Nat.mul_le_mul_left _ (by omega)
  have h3 : (e + 1) * v2 * K ≤ u3 * K := Nat.mul_le_mul_right _ hd
  have h4 : e * ((v2 + 1) * K) = (e * v2 + e) * K := by rw [← Nat.mul_assoc, Nat.mul_add, Nat.mul_one]
  have h5 : (e + 1) * v2 * K = (e * v2 + v2) * K := by rw [Nat.add_mul, Nat.one_mul]
  have h6 : (e * v2 + e) * K ≤ (e * v2 + v2) * K := Nat.mul_le_mul_right _ (by omega)
  omega
end Go.Proofs.YtdhjgekbocnnkaaDoor

/-
  nat.guess.
-/
namespace Go.Proofs.YtdhjgekbocnnkaaDoor
open Go.RowKit Nt
set_option linter.unusedSimpArgs false
set_option linter.unusedVariables false
set_option maxRecDepth 20000

theorem top_two {xs : List Nat} {n : Nat} (ho : Ok xs) (hl : xs.length = n + 2) : ∃ low, low < 4294967296 ^ n ∧ val xs = low + 4294967296 ^ n * (xs.getD n 0 + 4294967296 * xs.getD (n + 1) 0) := by
  have h1 := val_take_succ xs n (by omega)
  have h2 := val_take_succ xs (n + 1) (by omega)
  rw [List.take_of_length_le (by omega), h1, Nat.pow_succ] at h2
  have h3 := val_lt (ho.take n)
  rw [List.length_take, Nat.min_eq_left (by omega)] at h3
  refine ⟨_, h3, ?_⟩
  rw [h2, Nat.mul_add, Nat.mul_assoc]
  omega
theorem top_one {xs : List Nat} {n : Nat} (ho : Ok xs) (hl : xs.length = n + 1) : ∃ low, low < 4294967296 ^ n ∧ val xs = low + 4294967296 ^ n * xs.getD n 0 := by
  have h1 := val_take_succ xs n (by omega)
  rw [List.take_of_length_le (by omega)] at h1
  have h3 := val_lt (ho.take n)
  rw [List.length_take, Nat.min_eq_left (by omega)] at h3
  exact ⟨_, h3, h1⟩

/-- What guess finds: the digit, or one more. -/
structure Gs (U V d : Nat) : Prop where
  low : U / V ≤ d
  high : d ≤ U / V + 1
  lim : d < 4294967296

structure GsIn (U V T F S u2 k : Nat) : Prop where
  hT : U < (T + 1) * 4294967296 ^ (k + 1)
  h3l : (T * 4294967296 + u2) * 4294967296 ^ k ≤ U
  h3u : U < (T * 4294967296 + u2 + 1) * 4294967296 ^ k
  hF : F * 4294967296 ^ (k + 1) ≤ V
  h2l : (F * 4294967296 + S) * 4294967296 ^ k ≤ V
  h2u : V < (F * 4294967296 + S + 1) * 4294967296 ^ k
  hTF : T ≤ F * 4294967296 + 4294967295

theorem gs_in {us vs : List Nat} {k : Nat} (hou : Ok us) (hov : Ok vs) (hlu : us.length = k + 3) (hlv : vs.length = k + 2) (hlt : val us < val vs * 4294967296) :
    GsIn (val us) (val vs) (us.getD (k + 2) 0 * 4294967296 + us.getD (k + 1) 0) (vs.getD (k + 1) 0) (vs.getD k 0) (us.getD k 0) k := by
  obtain ⟨l1, b1, e1⟩ := top_two (n := k + 1) hou hlu
  obtain ⟨l2, b2, e2⟩ := top_two (n := k) hov hlv
  obtain ⟨l3, b3, e3⟩ := top_one (n := k + 1) hov hlv
  have e1' : val us = val (us.take k) + 4294967296 ^ k * us.getD k 0 + 4294967296 ^ (k + 1) * (us.getD (k + 1) 0 + 4294967296 * us.getD (k + 2) 0) := by
    have h1 := val_take_succ us k (by omega)
    have h2 := val_take_succ us (k + 1) (by omega)
    have h3 := val_take_succ us (k + 2) (by omega)
    rw [List.take_of_length_le (by omega), h2, h1, Nat.pow_succ (n := 4294967296) (m := k + 1)] at h3
    rw [h3, Nat.mul_add, Nat.mul_assoc]
    omega
  have b0 := val_lt (hou.take k)
  rw [List.length_take, Nat.min_eq_left (by omega)] at b0
  have hF1 := hov.getD (k + 1)
  generalize us.getD k 0 = u2 at *
  have hu1 := hou.getD (k + 1)
  generalize us.getD (k + 1) 0 = u1 at *
  generalize us.getD (k + 2) 0 = u0 at *
  generalize vs.getD (k + 1) 0 = F at *
  generalize vs.getD k 0 = S at *
  generalize val (us.take k) = l0 at *
  generalize val us = U at *
  generalize val vs = V at *
  rw [Nat.pow_succ] at *
  generalize hK : 4294967296 ^ k = K at *
  have c1 : K * 4294967296 * (u1 + 4294967296 * u0) = (u0 * 4294967296 + u1) * (K * 4294967296) := by rw [Nat.mul_comm, Nat.add_comm, Nat.mul_comm 4294967296 u0]
  have c2 : K * (S + 4294967296 * F) = (F * 4294967296 + S) * K := by rw [Nat.mul_comm, Nat.add_comm, Nat.mul_comm 4294967296 F]
  have c3 : K * u2 = u2 * K := Nat.mul_comm _ _
  have c4 : (u0 * 4294967296 + u1) * (K * 4294967296) = (u0 * 4294967296 + u1) * 4294967296 * K := by rw [Nat.mul_comm K, Nat.mul_assoc]
  have c5 : K * 4294967296 * F = F * (K * 4294967296) := Nat.mul_comm _ _
  obtain ⟨T, hT⟩ : ∃ T, u0 * 4294967296 + u1 = T := ⟨_, rfl⟩
  rw [hT] at c1 c4
  rw [hT]
  refine ⟨?_, ?_, ?_, ?_, ?_, ?_, ?_⟩
  all_goals (try rw [Nat.pow_succ])
  all_goals (try rw [hK])
  all_goals clear hK
  · rw [Nat.add_mul, Nat.one_mul]; omega
  · rw [Nat.add_mul]; omega
  · rw [Nat.add_mul, Nat.add_mul, Nat.one_mul]; omega
  · omega
  · omega
  · rw [Nat.add_mul (F * 4294967296 + S) 1, Nat.one_mul]; omega
  · apply Classical.byContradiction
    intro hc
    have hu0 : F + 1 ≤ u0 := by omega
    have d1 : (F + 1) * 4294967296 * (K * 4294967296) ≤ T * (K * 4294967296) := Nat.mul_le_mul_right _ (by omega)
    have d2 : V * 4294967296 ≤ (F + 1) * (K * 4294967296) * 4294967296 := Nat.mul_le_mul_right _ (by rw [Nat.add_mul, Nat.one_mul]; omega)
    have d3 : (F + 1) * (K * 4294967296) * 4294967296 = (F + 1) * 4294967296 * (K * 4294967296) := by rw [Nat.mul_assoc, Nat.mul_comm (K * 4294967296), ← Nat.mul_assoc]
    omega

/-- The end of the loop: three limbs don't say that it is too much. -/
theorem gs_end {U V T F S u2 k d r : Nat} (G : GsIn U V T F S u2 k) (hV : 0 < V) (hF : 2147483648 ≤ F) (hS : S < 4294967296) (hdr : d * F + r = T) (hlow : U / V ≤ d) (hd : d < 4294967296) (ht : d * S ≤ r * 4294967296 + u2) : Gs U V d := by
  refine ⟨hlow, ?_, hd⟩
  have hq : U < (U / V + 1) * V := by
    have := Nat.lt_mul_div_succ U hV
    rw [Nat.mul_comm] at this
    exact this
  refine guess_end G.h3l G.h2u ?_ (by omega) hq
  rw [Nat.mul_add, ← Nat.mul_assoc, ← hdr, Nat.add_mul]
  omega
theorem gs_down {U V T F S u2 k d r : Nat} (G : GsIn U V T F S u2 k) (hV : 0 < V) (hdr : d * F + r = T) (hlt : U < V * 4294967296) (ht : 4294967296 ≤ d ∨ r * 4294967296 + u2 < d * S) : U / V < d := by
  rcases ht with h | h
  · have : U / V < 4294967296 := (Nat.div_lt_iff_lt_mul hV).2 (by omega)
    omega
  · have h3 : T * 4294967296 + u2 < d * (F * 4294967296 + S) := by
      have e1 : d * (F * 4294967296 + S) = d * F * 4294967296 + d * S := by rw [Nat.mul_add d (F * 4294967296) S, ← Nat.mul_assoc d F 4294967296]
      have e2 : T * 4294967296 = d * F * 4294967296 + r * 4294967296 := by rw [← hdr, Nat.add_mul (d * F) r 4294967296]
      rw [e1, e2, Nat.add_assoc (d * F * 4294967296) (r * 4294967296) u2]
      exact Nat.add_lt_add_left h _
    exact guess_down (u3 := T * 4294967296 + u2) (v2 := F * 4294967296 + S) (K := 4294967296 ^ k) G.h3u G.h2l h3 (Nat.div_mul_le_self U V)

end Go.Proofs.YtdhjgekbocnnkaaDoor

/-
  nat.digit: one limb of a quotient; what is left stays in place.
-/
namespace Go.Proofs.YtdhjgekbocnnkaaDoor
open Go.RowKit Nt
set_option linter.unusedSimpArgs false
set_option linter.unusedVariables false
set_option maxRecDepth 20000

theorem digit_right {A V Z P bo q : Nat} (h : Z + V * q = A + P * bo) (hZ : Z < P) (hq : V * q ≤ A) : bo = 0 ∧ Z = A - V * q := by
  have hb : bo = 0 := by
    apply Classical.byContradiction
    intro hne
    have : P * 1 ≤ P * bo := Nat.mul_le_mul_left _ (by omega)
    omega
  subst hb
  rw [Nat.mul_zero] at h
  omega
theorem digit_more {A V Z P bo q : Nat} (h : Z + V * (q + 1) = A + P * bo) (hb : bo ≤ 1) (hq : A < V * (q + 1)) : bo = 1 ∧ Z + V + V * q = A + P := by
  have : bo = 1 := by
    apply Classical.byContradiction
    intro hne
    have h0 : bo = 0 := by omega
    rw [h0, Nat.mul_zero] at h
    omega
  subst this
  rw [Nat.mul_add, Nat.mul_one, Nat.mul_one] at h
  exact ⟨rfl, by omega⟩
theorem digit_back {A V Z Z' P cy q : Nat} (h : Z + V + V * q = A + P) (h2 : Z' + P * cy = Z + V) (hc : cy ≤ 1) (hZ' : Z' < P) (hq : V * q ≤ A) (hr : A - V * q < P) : Z' = A - V * q := by
  have : cy = 1 := by
    apply Classical.byContradiction
    intro hne
    have h0 : cy = 0 := by omega
    rw [h0, Nat.mul_zero] at h2
    omega
  subst this
  rw [Nat.mul_one] at h2
  omega

end Go.Proofs.YtdhjgekbocnnkaaDoor

/-
  The mathematics of a long division.
-/
namespace Go.Proofs.YtdhjgekbocnnkaaDoor
open Go.RowKit Nt
set_option linter.unusedSimpArgs false
set_option linter.unusedVariables false
set_option maxRecDepth 20000

/-- The highest limb of a number that lies between half a power and the power. -/
theorem top_half {v n : Nat} (hn : 0 < n) (h1 : 4294967296 ^ (n - 1) * 2147483648 ≤ v) (h2 : v < 4294967296 ^ n) : (digs v).length = n ∧ 2147483648 ≤ (digs v).getD (n - 1) 0 := by
  obtain ⟨k, rfl⟩ : ∃ k, n = k + 1 := ⟨n - 1, by omega⟩
  rw [Nat.add_sub_cancel] at h1 ⊢
  have hle := digs_length_le h2
  have hlt := lt_pow_digs v
  have hk0 : 0 < 4294967296 ^ k := Nat.pow_pos (by omega)
  have hl : (digs v).length = k + 1 := by
    apply Classical.byContradiction
    intro hne
    have : 4294967296 ^ (digs v).length ≤ 4294967296 ^ k := Nat.pow_le_pow_right (by omega) (by omega)
    omega
  refine ⟨hl, ?_⟩
  have e := val_take_succ (digs v) k (by omega)
  rw [List.take_of_length_le (by omega), val_digs] at e
  have ht := val_lt ((ok_digs v).take k)
  rw [List.length_take, Nat.min_eq_left (by omega)] at ht
  apply Classical.byContradiction
  intro hc
  have h3 : 4294967296 ^ k * ((digs v).getD k 0 + 1) ≤ 4294967296 ^ k * 2147483648 := Nat.mul_le_mul_left _ (by omega)
  rw [Nat.mul_add, Nat.mul_one] at h3
  omega

/-- The divisor, moved up so that its highest bit is set. -/
theorem norm_top {B : List Nat} {n t s : Nat} (ho : Ok B) (hl : B.length = n) (hn : 0 < n) (ht : B.getD (n - 1) 0 = t) (h0 : t ≠ 0) (hs : s + Go.bitLen t = 32) :
    4294967296 ^ (n - 1) * 2147483648 ≤ val B * 2 ^ s ∧ val B * 2 ^ s < 4294967296 ^ n := by
  obtain ⟨k, rfl⟩ : ∃ k, n = k + 1 := ⟨n - 1, by omega⟩
  rw [Nat.add_sub_cancel] at ht ⊢
  obtain ⟨s1, s2⟩ := bitLen_spec t
  have s3 := s2 h0
  have e := val_take_succ B k (by omega)
  rw [List.take_of_length_le (by omega), ht] at e
  have hv := val_lt (ho.take k)
  rw [List.length_take, Nat.min_eq_left (by omega)] at hv
  have hb0 : Go.bitLen t ≠ 0 := by intro e; rw [e] at s1; simp at s1; exact h0 s1
  have hp : 0 < 2 ^ s := Nat.two_pow_pos s
  constructor
  · have e2 : (2147483648 : Nat) = 2 ^ (Go.bitLen t - 1) * 2 ^ s := by rw [← Nat.pow_add, show Go.bitLen t - 1 + s = 31 from by omega]
    rw [e2, ← Nat.mul_assoc]
    apply Nat.mul_le_mul_right
    have : 4294967296 ^ k * 2 ^ (Go.bitLen t - 1) ≤ 4294967296 ^ k * t := Nat.mul_le_mul_left _ s3
    omega
  · have e2 : (4294967296 : Nat) = 2 ^ Go.bitLen t * 2 ^ s := by rw [← Nat.pow_add, show Go.bitLen t + s = 32 from by omega]
    have h3 : 4294967296 ^ k * (t + 1) ≤ 4294967296 ^ k * 2 ^ Go.bitLen t := Nat.mul_le_mul_left _ s1
    rw [Nat.mul_add, Nat.mul_one] at h3
    have h4 : val B < 4294967296 ^ k * 2 ^ Go.bitLen t := by omega
    have h5 := Nat.mul_lt_mul_of_pos_right h4 hp
    rw [Nat.mul_assoc, ← e2, ← Nat.pow_succ] at h5
    exact h5

/-- At the start what is divided lies below the divisor's highest multiple. -/
theorem long_start {A B : List Nat} {la n s : Nat} (hA : Ok A) (hl : A.length = la) (hn : 0 < n) (hnl : n ≤ la) (hB : 4294967296 ^ (n - 1) ≤ val B) : val A * 2 ^ s < val B * 2 ^ s * 4294967296 ^ (la - n + 1) := by
  have h1 := val_lt hA
  rw [hl] at h1
  have h2 : 4294967296 ^ (n - 1) * 4294967296 ^ (la - n + 1) ≤ val B * 4294967296 ^ (la - n + 1) := Nat.mul_le_mul_right _ hB
  rw [← Nat.pow_add, show n - 1 + (la - n + 1) = la from by omega] at h2
  rw [Nat.mul_assoc, Nat.mul_comm (2 ^ s), ← Nat.mul_assoc]
  exact Nat.mul_lt_mul_of_pos_right (by omega) (Nat.two_pow_pos s)

/-- One digit's part: what is left is cut in three. -/
theorem long_cut {X : List Nat} {j n i V : Nat} (ho : Ok X) (hl : X.length = j + (n + 1) + i) (hV : V < 4294967296 ^ n) (h : val X < V * 4294967296 ^ (j + 1)) :
    val (X.take j) < 4294967296 ^ j ∧ val X = val (X.take j) + 4294967296 ^ j * val ((X.drop j).take (n + 1)) ∧ val ((X.drop j).drop (n + 1)) = 0 ∧ val ((X.drop j).take (n + 1)) < V * 4294967296 := by
  have e1 := val_split X j (by omega)
  have e2 := val_split (X.drop j) (n + 1) (by simp; omega)
  have t1 := val_lt (ho.take j)
  rw [List.length_take, Nat.min_eq_left (by omega)] at t1
  have hp : 0 < 4294967296 ^ j := Nat.pow_pos (by omega)
  generalize val (X.take j) = a at *
  generalize hb : val ((X.drop j).take (n + 1)) = b at *
  generalize hc : val ((X.drop j).drop (n + 1)) = c at *
  rw [Nat.pow_succ, Nat.mul_comm (4294967296 ^ j), ← Nat.mul_assoc] at h
  have h3 : 4294967296 ^ j * val (X.drop j) < 4294967296 ^ j * (V * 4294967296) := by
    rw [Nat.mul_comm (4294967296 ^ j) (V * 4294967296)]
    omega
  have h4 := Nat.lt_of_mul_lt_mul_left h3
  have hc0 : c = 0 := by
    apply Classical.byContradiction
    intro hne
    have h5 : 4294967296 ^ (n + 1) * 1 ≤ 4294967296 ^ (n + 1) * c := Nat.mul_le_mul_left _ (by omega)
    have h6 : V * 4294967296 < 4294967296 ^ n * 4294967296 := Nat.mul_lt_mul_of_pos_right hV (by omega)
    rw [← Nat.pow_succ] at h6
    omega
  rw [hc0, Nat.mul_zero, Nat.add_zero] at e2
  rw [e2] at e1 h4
  exact ⟨t1, e1, hc0, h4⟩

theorem long_less {a K b V : Nat} (h : a < K) (hV : 0 < V) : a + K * (b % V) < V * K := by
  have h1 : K * (b % V + 1) ≤ K * V := Nat.mul_le_mul_left _ (Nat.mod_lt _ hV)
  rw [Nat.mul_add, Nat.mul_one, Nat.mul_comm K V] at h1
  omega
theorem long_same {a K b V Q U : Nat} (h : a + K * b + V * (K * 4294967296) * Q = U) : a + K * (b % V) + V * K * (b / V + 4294967296 * Q) = U := by
  have h1 : K * b = K * (V * (b / V) + b % V) := by rw [Nat.div_add_mod]
  rw [Nat.mul_add, ← Nat.mul_assoc] at h1
  rw [Nat.mul_add, Nat.mul_comm V K, ← Nat.mul_assoc]
  rw [← Nat.mul_assoc, Nat.mul_comm V K] at h
  omega
/-- The end: quotient and rest. -/
theorem long_end {X V Q a b S : Nat} (h : X + V * Q = a * S) (hl : X < V) (hV : V = b * S) (hS : 0 < S) : Q = a / b ∧ X = (a % b) * S := by
  have hb : 0 < b := by
    apply Nat.pos_of_ne_zero
    intro e
    rw [e, Nat.zero_mul] at hV
    omega
  have hq : Q = a * S / V := by
    rw [← h, Nat.mul_comm V Q, Nat.add_mul_div_right _ _ (by omega), Nat.div_eq_of_lt hl, Nat.zero_add]
  have hr : X = a * S % V := by
    rw [← h, Nat.mul_comm V Q, Nat.add_mul_mod_self_right, Nat.mod_eq_of_lt hl]
  rw [hV, Nat.mul_div_mul_right _ _ hS] at hq
  rw [hV, Nat.mul_mod_mul_right] at hr
  exact ⟨hq, hr⟩
end Go.Proofs.YtdhjgekbocnnkaaDoor

/-
  nat.divLong: the long division.
-/
namespace Go.Proofs.YtdhjgekbocnnkaaDoor
open Go.RowKit Nt
set_option linter.unusedSimpArgs false
set_option linter.unusedVariables false
set_option maxRecDepth 20000

theorem mul_lt_pow {a K s : Nat} (h : a < K) (hs : s < 32) : a * 2 ^ s < K * 4294967296 := by
  have h1 : 2 ^ s ≤ 4294967296 := Nat.le_trans (Nat.pow_le_pow_right (n := 2) (by omega) (show s ≤ 32 by omega)) (by omega)
  have h2 : 0 < 2 ^ s := Nat.two_pow_pos s
  generalize 2 ^ s = P at *
  have h3 : (a + 1) * P ≤ K * P := Nat.mul_le_mul_right _ h
  have h4 : K * P ≤ K * 4294967296 := Nat.mul_le_mul_left _ h1
  rw [Nat.add_mul, Nat.one_mul] at h3
  omega

/-- Two rows of their own. -/
def Two (r s : Option Addr) : Prop := ∀ b o b' o', r = some ⟨b, o, none⟩ → s = some ⟨b', o', none⟩ → b ≠ b'
theorem Two.void (s : Option Addr) : Two none s := fun _ _ _ _ e => by cases e
/-- A row that lay there, and one that was made later. -/
theorem Two.later {w w' W : World} {r s : Option Addr} {cs n : Nat} (h : ∀ b o, r = some ⟨b, o, none⟩ → b < W.heap.size) (k : Res W w' s cs n) : Two r s := fun b o b' o' e e' => by
  have h1 := h b o e
  obtain ⟨_, h2, _⟩ := k.own b' o' e'
  omega
theorem Two.sooner {w w' W : World} {r s : Option Addr} {cr n : Nat} (h : ∀ b o, s = some ⟨b, o, none⟩ → b < W.heap.size) (k : Res W w' r cr n) : Two r s := fun b o b' o' e e' => by
  have h1 := h b' o' e'
  obtain ⟨_, h2, _⟩ := k.own b o e
  omega
theorem Res.in {w w' : World} {r : Option Addr} {c n : Nat} (k : Res w w' r c n) : ∀ b o, r = some ⟨b, o, none⟩ → b < w'.heap.size := fun b o e => by
  obtain ⟨_, _, rest, h, _⟩ := k.own b o e
  exact h.size

/-- Where the loop stands: k digits are found. -/
structure Lg (w wr : World) (gu gq : Nat) (pv : Option Addr) (cv n e V U k : Nat) (X Q : List Nat) : Prop where
  bel : Below w.heap.size w wr
  bu : Blk wr gu X
  bq : Blk wr gq (List.replicate (e + 1 - k) 0 ++ Q)
  sv : Sl wr pv n cv (digs V)
  ox : Ok X
  oq : Ok Q
  lx : X.length = n + e + 1
  lq : Q.length = k
  less : val X < V * 4294967296 ^ (e + 1 - k)
  same : val X + V * 4294967296 ^ (e + 1 - k) * val Q = U

end Go.Proofs.YtdhjgekbocnnkaaDoor

/-
  nat.Div.
-/
namespace Go.Proofs.YtdhjgekbocnnkaaDoor
open Go.RowKit Nt
set_option linter.unusedSimpArgs false
set_option linter.unusedVariables false
set_option maxRecDepth 20000

theorem less_of_len {a b : Nat} (h : (digs a).length < (digs b).length) : a < b := by
  have h1 := lt_pow_digs a
  have hb : b ≠ 0 := by
    intro e
    rw [e] at h
    simp [digs_zero] at h
  have h2 := pow_le_digs hb
  have h3 : 4294967296 ^ (digs a).length ≤ 4294967296 ^ ((digs b).length - 1) := Nat.pow_le_pow_right (by omega) (by omega)
  omega

theorem one_limb {ys : List Nat} (h : (digs (val ys)).length = 1) : digs (val ys) = [val ys] ∧ val ys < 4294967296 := by
  have h1 := val_digs (val ys)
  have h2 := ok_digs (val ys)
  match hd : digs (val ys), h with
  | [x], _ =>
    rw [hd] at h1 h2
    rw [val_one] at h1
    subst h1
    exact ⟨rfl, h2.head⟩

end Go.Proofs.YtdhjgekbocnnkaaDoor
