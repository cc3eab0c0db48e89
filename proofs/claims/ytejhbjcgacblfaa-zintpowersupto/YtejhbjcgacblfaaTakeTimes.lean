/-
  nat.takeTimes: a multiple taken off in place, round the end.
-/
import Derived.Test.YtejhbjcgacblfaaWrites
import Derived.Test.YtejhbjcgacblfaaSubFrom
namespace Go.Proofs.Ytejhbjcgacblfaa
open Go.RowKit Nt
set_option linter.unusedSimpArgs false
set_option linter.unusedVariables false

theorem take_step {P VZ VV VA f x y z c c' : Nat} (h : VZ + VV * f = VA + P * c) (hs : z + y * f + c = x + 4294967296 * c') : VZ + P * z + (VV + P * y) * f = VA + P * x + P * 4294967296 * c' := by
  have h2 : P * (z + y * f + c) = P * (x + 4294967296 * c') := by rw [hs]
  rw [Nat.mul_add, Nat.mul_add, Nat.mul_add, ← Nat.mul_assoc, ← Nat.mul_assoc] at h2
  rw [Nat.add_mul]
  omega

set_option maxHeartbeats 4000000 in
theorem takeTimes_c (w : World) (g : Nat) (pre A post : List Nat) (n c : Nat) (q : Option Addr) (m d : Nat) (B : List Nat) (f : Nat) (hn : A.length = n) (hnc : n ≤ c) (hcm : c ≤ maxLen)
    (hg : Blk w g (pre ++ A ++ post)) (hA : Ok A) (hB : Sl w q m d B) (hq : Apart q B g) (hmn : m + 1 = n) (hf : f < 4294967296) :
    Calls Try.prog 75 #[.slice (some ⟨g, pre.length, none⟩) n c, .slice q m d, .int .u32 f] w fun e w' =>
      ∃ (Z : List Nat) (bo : Nat), Z.length = n ∧ Ok Z ∧ bo ≤ 1 ∧ val Z + val B * f = val A + 4294967296 ^ n * bo ∧ e = .returned (.bool (bo != 0)) ∧ Wr w g (pre ++ Z ++ post) w' := by
  subst hmn
  obtain ⟨o, ho⟩ : ∃ o, pre.length = o := ⟨_, rfl⟩
  rw [ho]
  have HN := hid hn
  have HG := hid hg
  have HA := hid hA
  have HB := hid hB
  have HQ := hid hq
  have HO := hid ho
  unfold maxLen at hcm
  have hdm := hB.max
  unfold maxLen at hdm
  have hmd := hB.cap
  clear hn hg hA hB hq ho
  go_enter Try.func75, Try.ntmps75
  go_wp2
  go_loopw [7, 8, 14] (fun cv bv i wr => ∃ (k cy br : Nat), k ≤ m ∧ i = .int .i64 k ∧ cy < 4294967296 ∧ br ≤ 1 ∧ cv = .int .u64 cy ∧ bv = .int .u64 br ∧ ∃ Z : List Nat, Hid (Z.length = k ∧ Ok Z ∧ val Z + val (B.take k) * f = val (A.take k) + 4294967296 ^ k * (cy + br) ∧ Wr w g (pre ++ (Z ++ A.drop k) ++ post) wr)) (fun _ _ i _ => m - (intOf i).toNat)
  case atStart => exact ⟨0, 0, 0, Nat.zero_le _, rfl, by omega, by omega, rfl, rfl, [], rfl, Ok.nil, by simp [val], by simpa using Wr.refl HG.out⟩
  case round =>
    obtain ⟨k, cy, br, hk, rfl, hcy, hbr, rfl, rfl, Z, HZ⟩ := hrel
    by_cases hlt : k < m
    · have hBl := HB.out.lie
      obtain ⟨b, o', rfl, hcell'⟩ := (HZ.out.2.2.2.limbs hBl HQ.out) k (by have := HB.out.len; omega)
      have hcell := (Wr.blk HG.out HZ.out.2.2.2).cell (o + k) (by have := HZ.out.1; have := HN.out; have := HO.out; simp; omega)
      have hfz := (Wr.blk HG.out HZ.out.2.2.2).frozen (o + k)
      rw [← HO.out, mid_get pre Z A post k HZ.out.1 (by rw [HN.out]; omega), HO.out] at hcell
      obtain ⟨x, hx⟩ : ∃ x, A.getD k 0 = x := ⟨_, rfl⟩
      obtain ⟨y, hy⟩ : ∃ y, B.getD k 0 = y := ⟨_, rfl⟩
      rw [hx] at hcell
      rw [hy] at hcell'
      have hxb : x < 4294967296 := by rw [← hx]; exact HA.out.getD k
      have hyb : y < 4294967296 := by rw [← hy]; exact HB.out.ok.getD k
      have hyf : y * f ≤ 18446744065119617025 := by
        have h1 : y * f ≤ 4294967295 * 4294967295 := Nat.mul_le_mul (by omega) (by omega)
        omega
      obtain ⟨C, hC⟩ : ∃ C, cy + y * f = C := ⟨_, rfl⟩
      have hCi : (cy : Int) + (y : Int) * (f : Int) = (C : Int) := by rw [← hC, Int.natCast_add, Int.natCast_mul]
      have hCb : C < 18446744073709551616 := by omega
      have hyf' : (y : Int) * (f : Int) ≤ 18446744065119617025 := by rw [← Int.natCast_mul]; omega
      have hyf0 : 0 ≤ (y : Int) * (f : Int) := by rw [← Int.natCast_mul]; omega
      have HX := hid hx
      have HY := hid hy
      have HC := hid hC
      clear hx hy hBl hyf hC
      go_wp2
      go_roundw
      case rel =>
        obtain ⟨hz1, hz2, hz3, hz4⟩ := HZ.out
        obtain ⟨z, br', b1, b2, e1, e2, e3⟩ := sub_limb x (C % 4294967296) br hxb (by omega) hbr
        rw [Int.natCast_emod] at e1 e2
        refine ⟨k + 1, C / 4294967296, br', by omega, by go_num, by omega, b2, by go_num, by rw [← e2]; rfl, Z ++ [z], by simp [hz1], hz2.snoc b1, ?_, ?_⟩
        · rw [val_snoc, hz1, val_take_succ A k (by rw [HN.out]; omega), val_take_succ B k (by rw [HB.out.len]; omega), Nat.pow_succ, HX.out, HY.out]
          have hC := HC.out
          exact take_step hz3 (by omega)
        · exact Wr.next' HG.out hz1 (by rw [HN.out]; omega) hz4 (by rw [HO.out]) e1
      case measure => simp [intOf]; omega
    · have hkm : k = m := by omega
      subst hkm
      have hcell := (Wr.blk HG.out HZ.out.2.2.2).cell (o + k) (by have := HZ.out.1; have := HN.out; have := HO.out; simp; omega)
      have hfz := (Wr.blk HG.out HZ.out.2.2.2).frozen (o + k)
      rw [← HO.out, mid_get pre Z A post k HZ.out.1 (by rw [HN.out]; omega), HO.out] at hcell
      obtain ⟨x, hx⟩ : ∃ x, A.getD k 0 = x := ⟨_, rfl⟩
      rw [hx] at hcell
      have hxb : x < 4294967296 := by rw [← hx]; exact HA.out.getD k
      obtain ⟨z, bo, b1, b2, e1, e2, e3⟩ := sub_limb x cy br hxb hcy hbr
      have HX := hid hx
      have HE := hid (And.intro e1 (And.intro e2 e3))
      clear hx e1 e2 e3
      go_wp2
      go_ret
      obtain ⟨e1, e2, e3⟩ := HE.out
      obtain ⟨hz1, hz2, hz3, hz4⟩ := HZ.out
      refine ⟨Z ++ [z], bo, by simp [hz1], hz2.snoc b1, b2, ?_, ?_, ?_⟩
      · have ht : A.take (k + 1) = A := List.take_of_length_le (by rw [HN.out]; exact Nat.le_refl _)
        have hs := val_take_succ A k (by rw [HN.out]; omega)
        rw [ht, HX.out] at hs
        rw [List.take_of_length_le (l := B) (by rw [HB.out.len]; exact Nat.le_refl _)] at hz3
        rw [val_snoc, hz1, hs, Nat.pow_succ]
        have := take_step (y := 0) (f := f) hz3 (show z + 0 * f + (cy + br) = x + 4294967296 * bo by omega)
        rw [Nat.mul_zero, Nat.add_zero] at this
        exact this
      · first
          | (show Ending.returned (.bool _) = _; rw [e2]; congr 2; rw [Bool.eq_iff_iff]; simp; done)
          | (simp [e2]; done)
          | (congr 2; rw [e2, Bool.eq_iff_iff]; simp; omega)
      · have := Wr.next' HG.out hz1 (by rw [HN.out]; omega) hz4 (show pre.length + k = o + k by rw [HO.out]) e1
        rw [List.drop_of_length_le (l := A) (by rw [HN.out]; exact Nat.le_refl _), List.append_nil] at this
        exact this
end Go.Proofs.Ytejhbjcgacblfaa
