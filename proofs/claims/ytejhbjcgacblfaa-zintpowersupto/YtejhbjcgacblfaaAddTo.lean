/-
  nat.addTo: the sum in place.
-/
import Derived.Test.YtejhbjcgacblfaaWrites
namespace Go.Proofs.Ytejhbjcgacblfaa
open Go.RowKit Nt
set_option linter.unusedSimpArgs false
set_option linter.unusedVariables false

theorem addTo_end {A Z : List Nat} {V k cy : Nat} (hz1 : Z.length = k) (hk : k ≤ A.length) (h : cy = 0 ∨ k = A.length) (hz3 : val Z + 4294967296 ^ k * cy = val (A.take k) + V) :
    val (Z ++ A.drop k) + 4294967296 ^ A.length * cy = val A + V := by
  rw [val_append, hz1]
  have := val_split A k hk
  rcases h with rfl | rfl
  · omega
  · simp [val] at *; omega

set_option maxHeartbeats 1000000 in
theorem addTo_c (w : World) (g : Nat) (pre A post : List Nat) (n c : Nat) (q : Option Addr) (m d : Nat) (B : List Nat) (hn : A.length = n) (hnc : n ≤ c) (hcm : c ≤ maxLen)
    (hg : Blk w g (pre ++ A ++ post)) (hA : Ok A) (hB : Sl w q m d B) (hq : Apart q B g) (hmn : m ≤ n) :
    Calls Try.prog 53 #[.slice (some ⟨g, pre.length, none⟩) n c, .slice q m d] w fun e w' =>
      ∃ (Z : List Nat) (cy : Nat), Z.length = n ∧ Ok Z ∧ cy ≤ 1 ∧ val Z + 4294967296 ^ n * cy = val A + val B ∧ e = .returned (.int .u32 cy) ∧ Wr w g (pre ++ Z ++ post) w' := by
  obtain ⟨o, ho⟩ : ∃ o, pre.length = o := ⟨_, rfl⟩
  rw [ho]
  have HN := hid hn
  have HG := hid hg
  have HA := hid hA
  have HB := hid hB
  have HQ := hid hq
  have HO := hid ho
  unfold maxLen at hcm
  have hdm := hB.max
  unfold maxLen at hdm
  have hmd := hB.cap
  clear hn hg hA hB hq ho
  go_enter Try.func53, Try.ntmps53
  go_wp2
  go_loopw [5, 10] (fun cv i wr => ∃ (k cy : Nat), k ≤ m ∧ i = .int .i64 k ∧ cy ≤ 1 ∧ cv = .int .u64 cy ∧ ∃ Z : List Nat, Hid (Z.length = k ∧ Ok Z ∧ val Z + 4294967296 ^ k * cy = val (A.take k) + val (B.take k) ∧ Wr w g (pre ++ (Z ++ A.drop k) ++ post) wr)) (fun _ i _ => m - (intOf i).toNat)
  case atStart => exact ⟨0, 0, Nat.zero_le _, rfl, by omega, rfl, [], rfl, Ok.nil, rfl, by simpa using Wr.refl HG.out⟩
  case round =>
    obtain ⟨k, cy, hk, rfl, hcy, rfl, Z, HZ⟩ := hrel
    by_cases hlt : k < m
    · have hBl := HB.out.lie
      obtain ⟨b, o', rfl, hcell'⟩ := (HZ.out.2.2.2.limbs hBl HQ.out) k (by have := HB.out.len; omega)
      have hbg : b ≠ g := HQ.out b o' rfl (by intro e; have := HB.out.len; rw [e] at this; simp at this; omega)
      have hcell := (Wr.blk HG.out HZ.out.2.2.2).cell (o + k) (by have := HZ.out.1; have := HN.out; have := HO.out; simp; omega)
      have hfz := (Wr.blk HG.out HZ.out.2.2.2).frozen (o + k)
      rw [← HO.out, mid_get pre Z A post k HZ.out.1 (by rw [HN.out]; omega), HO.out] at hcell
      obtain ⟨x, hx⟩ : ∃ x, A.getD k 0 = x := ⟨_, rfl⟩
      obtain ⟨y, hy⟩ : ∃ y, B.getD k 0 = y := ⟨_, rfl⟩
      rw [hx] at hcell
      rw [hy] at hcell'
      have hxb : x < 4294967296 := by rw [← hx]; exact HA.out.getD k
      have hyb : y < 4294967296 := by rw [← hy]; exact HB.out.ok.getD k
      have HX := hid hx
      have HY := hid hy
      clear hx hy hBl
      go_wp2_with fail
      go_quiet (fail)
      go_wp2
      go_roundw
      case rel =>
        obtain ⟨hz1, hz2, hz3, hz4⟩ := HZ.out
        refine ⟨k + 1, (cy + (x + y)) / 4294967296, by omega, by go_num, by omega, by go_num, Z ++ [(cy + (x + y)) % 4294967296], by simp [hz1], hz2.snoc (by omega), ?_, ?_⟩
        · rw [val_snoc, hz1, val_take_succ A k (by rw [HN.out]; omega), val_take_succ B k (by rw [HB.out.len]; omega), Nat.pow_succ, HX.out, HY.out]
          have := carry_step (t := x + y) (z := (cy + (x + y)) % 4294967296) (cy' := (cy + (x + y)) / 4294967296) hz3 (by omega)
          rw [this, Nat.mul_add]
          omega
        · exact Wr.next' HG.out hz1 (by rw [HN.out]; omega) (hz4.drewN nq) (by rw [HO.out]) (by omega)
      case measure => simp [intOf]; omega
    · have hkm : k = m := by omega
      have HM := hid hkm
      go_wp2
      go_loopw [5, 7] (fun cv i wr => ∃ (k cy : Nat), m ≤ k ∧ k ≤ n ∧ i = .int .i64 k ∧ cy ≤ 1 ∧ cv = .int .u64 cy ∧ ∃ Z : List Nat, Hid (Z.length = k ∧ Ok Z ∧ val Z + 4294967296 ^ k * cy = val (A.take k) + val B ∧ Wr w g (pre ++ (Z ++ A.drop k) ++ post) wr)) (fun _ i _ => n - (intOf i).toNat)
      case atStart =>
        obtain ⟨hz1, hz2, hz3, hz4⟩ := HZ.out
        refine ⟨m, cy, Nat.le_refl _, hmn, rfl, hcy, rfl, Z, ?_, hz2, ?_, ?_⟩
        · rw [hz1, HM.out]
        · rw [HM.out, List.take_of_length_le (l := B) (by rw [HB.out.len]; omega)] at hz3; exact hz3
        · rw [HM.out] at hz4; exact hz4
      case round =>
        clear HZ
        obtain ⟨k, cy, hk1, hk2, rfl, hcy, rfl, Z, HZ⟩ := hrel
        by_cases hc0 : cy = 0
        · subst hc0
          go_wp2
          go_ret
          obtain ⟨hz1, hz2, hz3, hz4⟩ := HZ.out
          refine ⟨Z ++ A.drop k, 0, by simp [hz1, HN.out]; omega, hz2.append (HA.out.drop k), by omega, ?_, rfl, hz4⟩
          have := addTo_end hz1 (by rw [HN.out]; exact hk2) (Or.inl rfl) hz3
          rwa [HN.out] at this
        · have hc1 : cy = 1 := by omega
          subst hc1
          by_cases hlt : k < n
          · have hcell := (Wr.blk HG.out HZ.out.2.2.2).cell (o + k) (by have := HZ.out.1; have := HN.out; have := HO.out; simp; omega)
            have hfz := (Wr.blk HG.out HZ.out.2.2.2).frozen (o + k)
            rw [← HO.out, mid_get pre Z A post k HZ.out.1 (by rw [HN.out]; omega), HO.out] at hcell
            obtain ⟨x, hx⟩ : ∃ x, A.getD k 0 = x := ⟨_, rfl⟩
            rw [hx] at hcell
            have hxb : x < 4294967296 := by rw [← hx]; exact HA.out.getD k
            have HX := hid hx
            clear hx
            go_wp2
            go_roundw
            case rel =>
              obtain ⟨hz1, hz2, hz3, hz4⟩ := HZ.out
              refine ⟨k + 1, (1 + x) / 4294967296, by omega, by omega, by go_num, by omega, by go_num, Z ++ [(1 + x) % 4294967296], by simp [hz1], hz2.snoc (by omega), ?_, ?_⟩
              · rw [val_snoc, hz1, val_take_succ A k (by rw [HN.out]; omega), Nat.pow_succ, HX.out]
                have := carry_step (t := x) (z := (1 + x) % 4294967296) (cy' := (1 + x) / 4294967296) hz3 (by omega)
                rw [this]
                omega
              · exact Wr.next' HG.out hz1 (by rw [HN.out]; omega) hz4 (by rw [HO.out]) (by omega)
            case measure => simp [intOf]; omega
          · go_wp2
            go_ret
            obtain ⟨hz1, hz2, hz3, hz4⟩ := HZ.out
            refine ⟨Z ++ A.drop k, 1, by simp [hz1, HN.out]; omega, hz2.append (HA.out.drop k), by omega, ?_, rfl, hz4⟩
            have := addTo_end hz1 (by rw [HN.out]; exact hk2) (Or.inr (by rw [HN.out]; omega)) hz3
            rwa [HN.out] at this
end Go.Proofs.Ytejhbjcgacblfaa
