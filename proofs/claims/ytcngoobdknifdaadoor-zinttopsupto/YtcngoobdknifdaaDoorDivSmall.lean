/-
  nat.divSmall: by one limb, in place.
-/
import Derived.Test.YtcngoobdknifdaaDoorSetA
import Derived.Test.YtcngoobdknifdaaDoorAwake
namespace Go.Proofs.YtcngoobdknifdaaDoor
open Go.RowKit Nt
set_option linter.unusedSimpArgs false
set_option linter.unusedVariables false

theorem divs_step {x V D d r q r' : Nat} (h : V = d * D + r) (hq : x + 4294967296 * r = d * q + r') : x + 4294967296 * V = d * (q + 4294967296 * D) + r' := by
  rw [h, Nat.mul_add, Nat.mul_add]
  have : 4294967296 * (d * D) = d * (4294967296 * D) := by rw [← Nat.mul_assoc, Nat.mul_comm 4294967296 d, Nat.mul_assoc]
  omega

set_option maxHeartbeats 4000000 in
theorem divSmall_c (w : World) (g : Nat) (A post : List Nat) (n c d : Nat) (hn : A.length = n) (hnc : n ≤ c) (hcm : c ≤ maxLen) (hg : Blk w g (A ++ post)) (hA : Ok A) (hd0 : 0 < d) (hd : d < 4294967296) :
    Calls Tryd.prog 54 #[.slice (some ⟨g, 0, none⟩) n c, .int .u32 d] w fun e w' =>
      ∃ Z : List Nat, Z.length = n ∧ Ok Z ∧ val Z = val A / d ∧ e = .returned (.int .u32 (val A % d : Nat)) ∧ Wr w g (Z ++ post) w' := by
  have HN := hid hn
  have HG := hid hg
  have HA := hid hA
  unfold maxLen at hcm
  have hdi : ((d : Int) == 0) = false := beq_eq_false_iff_ne.2 (by omega)
  clear hn hg hA
  go_enter Tryd.func54, Tryd.ntmps54
  go_wp2_with fail
  go_loopw [5, 10] (fun v i wr => ∃ k r : Nat, k ≤ n ∧ i = .int .i64 k ∧ r < d ∧ v = .int .u64 r ∧ ∃ D : List Nat, Hid (D.length = k ∧ Ok D ∧ val (A.drop (n - k)) = d * val D + r ∧ Wr w g (A.take (n - k) ++ D ++ post) wr)) (fun _ i _ => n - (intOf i).toNat)
  case atStart =>
    refine ⟨0, 0, Nat.zero_le _, rfl, hd0, rfl, [], rfl, Ok.nil, ?_, ?_⟩
    · rw [Nat.sub_zero, List.drop_of_length_le (by rw [HN.out]; exact Nat.le_refl _)]; simp [val]
    · rw [Nat.sub_zero, List.take_of_length_le (by rw [HN.out]; exact Nat.le_refl _), List.append_nil]; exact Wr.refl HG.out
  case round =>
    obtain ⟨k, r, hk, rfl, hr, rfl, D, HD⟩ := hrel
    by_cases hlt : k < n
    · have hblk := Wr.blk HG.out HD.out.2.2.2
      have hlt2 : n - 1 - k < (A.take (n - k) ++ D ++ post).length := by have := HN.out; have := HD.out.1; simp; omega
      have hc1 := hblk.cell (n - 1 - k) hlt2
      have hf1 := hblk.frozen (n - 1 - k)
      have hgx : (A.take (n - k) ++ D ++ post).getD (n - 1 - k) 0 = A.getD (n - 1 - k) 0 := by
        have h1 : n - 1 - k < (A.take (n - k)).length := by have := HN.out; simp; omega
        rw [List.getD_eq_getElem?_getD, List.getD_eq_getElem?_getD, List.append_assoc, List.getElem?_append_left h1, List.getElem?_take, if_pos (by omega)]
      rw [hgx] at hc1
      obtain ⟨x, hx⟩ : ∃ x, A.getD (n - 1 - k) 0 = x := ⟨_, rfl⟩
      rw [hx] at hc1
      have hxb : x < 4294967296 := by rw [← hx]; exact HA.out.getD _
      have hrb : r < 4294967296 := by omega
      obtain ⟨B, hB⟩ : ∃ B, x + 4294967296 * r = B := ⟨_, rfl⟩
      have hor : bits .or .u64 ((r : Int) * 4294967296) (x : Int) = (B : Int) := by rw [or64' x r hxb hrb, hB]
      have hBb : B < 18446744073709551616 := by omega
      obtain ⟨q, hq⟩ : ∃ q, B / d = q := ⟨_, rfl⟩
      obtain ⟨r', hr'⟩ : ∃ r', B % d = r' := ⟨_, rfl⟩
      have hqi : (B : Int) / (d : Int) = (q : Int) := by rw [← hq]; simp
      have hri : (B : Int).tmod (d : Int) = (r' : Int) := by rw [← hr']; exact (Int.ofNat_tmod B d).symm
      have hri2 : (B : Int) % (d : Int) = (r' : Int) := by rw [← hr']; simp
      have hqb : q < 4294967296 := by
        rw [← hq]
        apply Nat.div_lt_of_lt_mul
        rw [← hB]
        have : 4294967296 * (r + 1) ≤ 4294967296 * d := Nat.mul_le_mul_left _ hr
        rw [Nat.mul_comm d]
        omega
      have hrd : r' < d := by rw [← hr']; exact Nat.mod_lt _ hd0
      have HXK := hid hx
      have HBE := hid (show x + 4294967296 * r = d * q + r' from by rw [hB, ← hq, ← hr']; exact (Nat.div_add_mod B d).symm)
      clear hx hB hq hr' hgx hlt2 hblk
      go_wp2
      go_roundw
      case rel =>
        obtain ⟨d1, d2, d3, d4⟩ := HD.out
        have hidx : n - (k + 1) = n - 1 - k := by omega
        have hdr : A.drop (n - 1 - k) = x :: A.drop (n - k) := by
          rw [drop_cons A (n - 1 - k) (by rw [HN.out]; omega), HXK.out]; congr 2; omega
        refine ⟨k + 1, r', by omega, by go_num, hrd, by first | rfl | go_num, q :: D, by simp [d1], Ok.cons hqb d2, ?_, ?_⟩
        · rw [hidx, hdr]
          simp only [val]
          exact divs_step d3 HBE.out
        · have w1 := Wr.set HG.out d4 (n - 1 - k) q
          have et : A.take (n - k) = A.take (n - 1 - k) ++ [x] := by
            rw [show n - k = n - 1 - k + 1 from by omega, List.take_succ_eq_append_getElem (by rw [HN.out]; omega)]
            have : A[n - 1 - k]'(by rw [HN.out]; omega) = x := by rw [← HXK.out]; simp [List.getD_eq_getElem?_getD, show n - 1 - k < A.length from by rw [HN.out]; omega]
            rw [this]
          have s1 := set_mid (A.take (n - 1 - k)) [] D post 0 x q rfl
          have el : (A.take (n - 1 - k)).length = n - 1 - k := by simp; have := HN.out; omega
          rw [el] at s1
          simp only [List.nil_append, Nat.add_zero] at s1
          rw [et, List.append_assoc (A.take (n - 1 - k)) [x] D, List.singleton_append, s1] at w1
          rw [hidx]
          simpa using w1
      case measure => simp [intOf]; omega
    · obtain ⟨d1, d2, d3, d4⟩ := HD.out
      have hkn : k = n := by omega
      rw [hkn, Nat.sub_self, List.drop_zero] at d3
      rw [hkn, Nat.sub_self, List.take_zero, List.nil_append] at d4
      rw [hkn] at d1
      have hq : val D = val A / d := by rw [d3, Nat.mul_add_div hd0, Nat.div_eq_of_lt hr, Nat.add_zero]
      have hm : val A % d = r := by rw [d3, Nat.mul_add_mod, Nat.mod_eq_of_lt hr]
      have HF := hid (And.intro d1 (And.intro d2 (And.intro hq (And.intro hm d4))))
      clear d1 d2 d3 d4 hkn hq hm
      go_wp2
      go_ret
      obtain ⟨f1, f2, f3, f4, f5⟩ := HF.out
      exact ⟨D, f1, f2, f3, by rw [f4]; rfl, f5⟩
end Go.Proofs.YtcngoobdknifdaaDoor
