/-
  nat.addTimes: a row, with a multiple of another added in place.
-/
import Derived.Test.YtejhbjcgacblfaaWrites
namespace Go.Proofs.Ytejhbjcgacblfaa
open Go.RowKit Nt
set_option linter.unusedSimpArgs false
set_option linter.unusedVariables false

set_option maxHeartbeats 1000000 in
theorem addTimes_c (w : World) (g : Nat) (pre A post : List Nat) (n c : Nat) (q : Option Addr) (m d : Nat) (B : List Nat) (f : Nat) (hn : A.length = n) (hnc : n ≤ c) (hcm : c ≤ maxLen)
    (hg : Blk w g (pre ++ A ++ post)) (hA : Ok A) (hB : Sl w q m d B) (hq : Apart q B g) (hmn : m = n) (hf : f < 4294967296) :
    Calls Try.prog 67 #[.slice (some ⟨g, pre.length, none⟩) n c, .slice q m d, .int .u32 f] w fun e w' =>
      ∃ (Z : List Nat) (cy : Nat), Z.length = n ∧ Ok Z ∧ cy < 4294967296 ∧ val Z + 4294967296 ^ n * cy = val A + val B * f ∧ e = .returned (.int .u32 cy) ∧ Wr w g (pre ++ Z ++ post) w' := by
  subst hmn
  obtain ⟨o, ho⟩ : ∃ o, pre.length = o := ⟨_, rfl⟩
  rw [ho]
  have HN := hid hn
  have HG := hid hg
  have HA := hid hA
  have HB := hid hB
  have HQ := hid hq
  have HO := hid ho
  unfold maxLen at hcm
  have hdm := hB.max
  unfold maxLen at hdm
  have hmd := hB.cap
  clear hn hg hA hB hq ho
  go_enter Try.func67, Try.ntmps67
  go_wp2
  go_loopw [7, 11] (fun cv i wr => ∃ (k cy : Nat), k ≤ m ∧ i = .int .i64 k ∧ cy < 4294967296 ∧ cv = .int .u64 cy ∧ ∃ Z : List Nat, Hid (Z.length = k ∧ Ok Z ∧ val Z + 4294967296 ^ k * cy = val (A.take k) + val (B.take k) * f ∧ Wr w g (pre ++ (Z ++ A.drop k) ++ post) wr)) (fun _ i _ => m - (intOf i).toNat)
  case atStart => exact ⟨0, 0, Nat.zero_le _, rfl, by omega, rfl, [], rfl, Ok.nil, by simp [val], by simpa using Wr.refl HG.out⟩
  case round =>
    obtain ⟨k, cy, hk, rfl, hcy, rfl, Z, HZ⟩ := hrel
    by_cases hlt : k < m
    · have hBl := HB.out.lie
      obtain ⟨b, o', rfl, hcell'⟩ := (HZ.out.2.2.2.limbs hBl HQ.out) k (by have := HB.out.len; omega)
      have hcell := (Wr.blk HG.out HZ.out.2.2.2).cell (o + k) (by have := HZ.out.1; have := HN.out; have := HO.out; simp; omega)
      have hfz := (Wr.blk HG.out HZ.out.2.2.2).frozen (o + k)
      rw [← HO.out, mid_get pre Z A post k HZ.out.1 (by rw [HN.out]; omega), HO.out] at hcell
      obtain ⟨x, hx⟩ : ∃ x, A.getD k 0 = x := ⟨_, rfl⟩
      obtain ⟨y, hy⟩ : ∃ y, B.getD k 0 = y := ⟨_, rfl⟩
      rw [hx] at hcell
      rw [hy] at hcell'
      have hxb : x < 4294967296 := by rw [← hx]; exact HA.out.getD k
      have hyb : y < 4294967296 := by rw [← hy]; exact HB.out.ok.getD k
      have hyf : y * f ≤ 18446744065119617025 := by
        have h1 : y * f ≤ 4294967295 * 4294967295 := Nat.mul_le_mul (by omega) (by omega)
        omega
      have hyf' : (y : Int) * (f : Int) ≤ 18446744065119617025 := by rw [← Int.natCast_mul]; omega
      have hyf0 : 0 ≤ (y : Int) * (f : Int) := by rw [← Int.natCast_mul]; omega
      have HYF := hid hyf
      have HX := hid hx
      have HY := hid hy
      clear hx hy hBl hyf
      go_wp2_with fail
      go_quiet (fail)
      go_wp2
      go_roundw
      case rel =>
        obtain ⟨hz1, hz2, hz3, hz4⟩ := HZ.out
        have hyf := HYF.out
        have e0 : (cy : Int) + ((x : Int) + (y : Int) * (f : Int)) = ((cy + (x + y * f) : Nat) : Int) := by simp
        rw [e0]
        refine ⟨k + 1, (cy + (x + y * f)) / 4294967296, by omega, by go_num, by omega, by rw [Int.natCast_ediv]; rfl, Z ++ [(cy + (x + y * f)) % 4294967296], by simp [hz1], hz2.snoc (by omega), ?_, ?_⟩
        · rw [val_snoc, hz1, val_take_succ A k (by rw [HN.out]; omega), val_take_succ B k (by rw [HB.out.len]; omega), Nat.pow_succ, HX.out, HY.out]
          exact times_step hz3 (by omega)
        · exact Wr.next' HG.out hz1 (by rw [HN.out]; omega) (hz4.drewN nq) (by rw [HO.out]) (by rw [Int.natCast_emod]; rfl)
      case measure => simp [intOf]; omega
    · go_wp2
      go_ret
      obtain ⟨hz1, hz2, hz3, hz4⟩ := HZ.out
      have hkm : k = m := by omega
      subst hkm
      rw [List.take_of_length_le (l := B) (by rw [HB.out.len]; omega), List.take_of_length_le (l := A) (by rw [HN.out]; omega)] at hz3
      rw [List.drop_of_length_le (by rw [HN.out]; omega), List.append_nil] at hz4
      exact ⟨Z, cy, hz1, hz2, hcy, hz3, rfl, hz4⟩
end Go.Proofs.Ytejhbjcgacblfaa
