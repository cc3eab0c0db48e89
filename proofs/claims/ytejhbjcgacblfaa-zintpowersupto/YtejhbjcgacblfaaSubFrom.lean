/-
  nat.subFrom: the difference in place.
-/
import Derived.Test.YtejhbjcgacblfaaWrites
namespace Go.Proofs.Ytejhbjcgacblfaa
open Go.RowKit Nt
set_option linter.unusedSimpArgs false
set_option linter.unusedVariables false

/-- A difference of two limbs with a borrow, in 64 bits. -/
theorem sub_limb (x y cy : Nat) (hx : x < 4294967296) (hy : y < 4294967296) (hc : cy ≤ 1) :
    ∃ z cy' : Nat, z < 4294967296 ∧ cy' ≤ 1 ∧ IntKind.u64.wrap (IntKind.u64.wrap ((x : Int) - y) - cy) % 4294967296 = z ∧ IntKind.u64.wrap (IntKind.u64.wrap ((x : Int) - y) - cy) / 9223372036854775808 = cy' ∧ z + (y + cy) = x + 4294967296 * cy' := by
  simp only [IntKind.wrap_u64]
  by_cases h : x < y + cy
  · exact ⟨x + 4294967296 - y - cy, 1, by omega, by omega, by omega, by omega, by omega⟩
  · exact ⟨x - y - cy, 0, by omega, by omega, by omega, by omega, by omega⟩
theorem sub_limb1 (x cy : Nat) (hx : x < 4294967296) (hc : cy ≤ 1) :
    ∃ z cy' : Nat, z < 4294967296 ∧ cy' ≤ 1 ∧ IntKind.u64.wrap ((x : Int) - cy) % 4294967296 = z ∧ IntKind.u64.wrap ((x : Int) - cy) / 9223372036854775808 = cy' ∧ z + (0 + cy) = x + 4294967296 * cy' := by
  simp only [IntKind.wrap_u64]
  by_cases h : x < cy
  · exact ⟨x + 4294967296 - cy, 1, by omega, by omega, by omega, by omega, by omega⟩
  · exact ⟨x - cy, 0, by omega, by omega, by omega, by omega, by omega⟩

theorem sub_end {A Z : List Nat} {V k cy : Nat} (hA : Ok A) (hZ : Ok Z) (hz1 : Z.length = k) (hk : k ≤ A.length) (hV : V ≤ val A) (h : cy = 0 ∨ k = A.length) (hz3 : val Z + V = val (A.take k) + 4294967296 ^ k * cy) :
    val (Z ++ A.drop k) + V = val A := by
  have hc : cy = 0 := by
    rcases h with h | h
    · exact h
    apply Classical.byContradiction
    intro hne
    have h1 := val_lt hZ
    rw [hz1] at h1
    have h2 : 4294967296 ^ k * 1 ≤ 4294967296 ^ k * cy := Nat.mul_le_mul_left _ (by omega)
    rw [h, List.take_length, ← h] at hz3
    have h3 : A.length = k := h.symm
    omega
  rw [hc, Nat.mul_zero] at hz3
  rw [val_append, hz1]
  have := val_split A k hk
  omega

set_option maxHeartbeats 1000000 in
theorem subFrom_c (w : World) (g : Nat) (A : List Nat) (n c : Nat) (q : Option Addr) (m d : Nat) (B : List Nat) (hn : A.length = n) (hnc : n ≤ c) (hcm : c ≤ maxLen) (post : List Nat)
    (hg : Blk w g (A ++ post)) (hA : Ok A) (hB : Sl w q m d B) (hq : Apart q B g) (hmn : m ≤ n) (hle : val B ≤ val A) :
    Calls Try.prog 54 #[.slice (some ⟨g, 0, none⟩) n c, .slice q m d] w fun e w' =>
      ∃ (Z : List Nat), Z.length = n ∧ Ok Z ∧ val Z + val B = val A ∧ e = .returned (.tuple #[]) ∧ Wr w g (Z ++ post) w' := by
  have HN := hid hn
  have HG := hid hg
  have HA := hid hA
  have HB := hid hB
  have HQ := hid hq
  have HL := hid hle
  unfold maxLen at hcm
  have hdm := hB.max
  unfold maxLen at hdm
  have hmd := hB.cap
  clear hn hg hA hB hq hle
  go_enter Try.func54, Try.ntmps54
  go_wp2
  go_loopw [4, 11] (fun cv i wr => ∃ (k cy : Nat), k ≤ m ∧ i = .int .i64 k ∧ cy ≤ 1 ∧ cv = .int .u64 cy ∧ ∃ Z : List Nat, Hid (Z.length = k ∧ Ok Z ∧ val Z + val (B.take k) = val (A.take k) + 4294967296 ^ k * cy ∧ Wr w g ([] ++ (Z ++ A.drop k) ++ post) wr)) (fun _ i _ => m - (intOf i).toNat)
  case atStart => exact ⟨0, 0, Nat.zero_le _, rfl, by omega, rfl, [], rfl, Ok.nil, rfl, by simpa using Wr.refl HG.out⟩
  case round =>
    obtain ⟨k, cy, hk, rfl, hcy, rfl, Z, HZ⟩ := hrel
    by_cases hlt : k < m
    · have hBl := HB.out.lie
      obtain ⟨b, o', rfl, hcell'⟩ := (HZ.out.2.2.2.limbs hBl HQ.out) k (by have := HB.out.len; omega)
      have hcell := (Wr.blk HG.out HZ.out.2.2.2).cell k (by have := HZ.out.1; have := HN.out; simp; omega)
      have hfz := (Wr.blk HG.out HZ.out.2.2.2).frozen k
      have hmg := mid_get [] Z A post k HZ.out.1 (by rw [HN.out]; omega)
      rw [List.length_nil, Nat.zero_add] at hmg
      rw [hmg] at hcell
      clear hmg
      obtain ⟨x, hx⟩ : ∃ x, A.getD k 0 = x := ⟨_, rfl⟩
      obtain ⟨y, hy⟩ : ∃ y, B.getD k 0 = y := ⟨_, rfl⟩
      rw [hx] at hcell
      rw [hy] at hcell'
      have hxb : x < 4294967296 := by rw [← hx]; exact HA.out.getD k
      have hyb : y < 4294967296 := by rw [← hy]; exact HB.out.ok.getD k
      have HX := hid hx
      have HY := hid hy
      clear hx hy hBl
      go_wp2_with fail
      go_quiet (fail)
      go_wp2
      go_roundw
      case rel =>
        obtain ⟨hz1, hz2, hz3, hz4⟩ := HZ.out
        obtain ⟨z, cy', b1, b2, e1, e2, e3⟩ := sub_limb x y cy hxb hyb hcy
        refine ⟨k + 1, cy', by omega, by go_num, b2, by rw [e2], Z ++ [z], by simp [hz1], hz2.snoc b1, ?_, ?_⟩
        · rw [val_snoc, hz1, val_take_succ A k (by rw [HN.out]; omega), val_take_succ B k (by rw [HB.out.len]; omega), Nat.pow_succ, HX.out, HY.out]
          exact borrow_step hz3 e3
        · exact Wr.next' HG.out hz1 (by rw [HN.out]; omega) (hz4.drewN nq) (by simp) e1
      case measure => simp [intOf]; omega
    · have hkm : k = m := by omega
      have HM := hid hkm
      go_wp2
      go_loopw [4, 7] (fun cv i wr => ∃ (k cy : Nat), m ≤ k ∧ k ≤ n ∧ i = .int .i64 k ∧ cy ≤ 1 ∧ cv = .int .u64 cy ∧ ∃ Z : List Nat, Hid (Z.length = k ∧ Ok Z ∧ val Z + val B = val (A.take k) + 4294967296 ^ k * cy ∧ Wr w g ([] ++ (Z ++ A.drop k) ++ post) wr)) (fun _ i _ => n - (intOf i).toNat)
      case atStart =>
        obtain ⟨hz1, hz2, hz3, hz4⟩ := HZ.out
        refine ⟨m, cy, Nat.le_refl _, hmn, rfl, hcy, rfl, Z, ?_, hz2, ?_, ?_⟩
        · rw [hz1, HM.out]
        · rw [HM.out, List.take_of_length_le (l := B) (by rw [HB.out.len]; omega)] at hz3; exact hz3
        · rw [HM.out] at hz4; exact hz4
      case round =>
        clear HZ
        obtain ⟨k, cy, hk1, hk2, rfl, hcy, rfl, Z, HZ⟩ := hrel
        by_cases hc0 : cy = 0
        · subst hc0
          go_wp2
          go_end0
          obtain ⟨hz1, hz2, hz3, hz4⟩ := HZ.out
          exact ⟨Z ++ A.drop k, by simp [hz1, HN.out]; omega, hz2.append (HA.out.drop k), sub_end HA.out hz2 hz1 (by rw [HN.out]; exact hk2) HL.out (Or.inl rfl) hz3, rfl, hz4⟩
        · have hc1 : cy = 1 := by omega
          subst hc1
          by_cases hlt : k < n
          · have hcell := (Wr.blk HG.out HZ.out.2.2.2).cell k (by have := HZ.out.1; have := HN.out; simp; omega)
            have hfz := (Wr.blk HG.out HZ.out.2.2.2).frozen k
            have hmg := mid_get [] Z A post k HZ.out.1 (by rw [HN.out]; omega)
            rw [List.length_nil, Nat.zero_add] at hmg
            rw [hmg] at hcell
            clear hmg
            obtain ⟨x, hx⟩ : ∃ x, A.getD k 0 = x := ⟨_, rfl⟩
            rw [hx] at hcell
            have hxb : x < 4294967296 := by rw [← hx]; exact HA.out.getD k
            have HX := hid hx
            clear hx
            go_wp2
            go_roundw
            case rel =>
              obtain ⟨hz1, hz2, hz3, hz4⟩ := HZ.out
              obtain ⟨z, cy', b1, b2, e1, e2, e3⟩ := sub_limb1 x 1 hxb hcy
              refine ⟨k + 1, cy', by omega, by omega, by go_num, b2, by rw [← e2]; rfl, Z ++ [z], by simp [hz1], hz2.snoc b1, ?_, ?_⟩
              · rw [val_snoc, hz1, val_take_succ A k (by rw [HN.out]; omega), Nat.pow_succ, HX.out]
                have := borrow_step hz3 e3
                rw [Nat.mul_zero, Nat.add_zero] at this
                exact this
              · exact Wr.next' HG.out hz1 (by rw [HN.out]; omega) hz4 (by simp) e1
            case measure => simp [intOf]; omega
          · go_wp2
            go_end0
            obtain ⟨hz1, hz2, hz3, hz4⟩ := HZ.out
            exact ⟨Z ++ A.drop k, by simp [hz1, HN.out]; omega, hz2.append (HA.out.drop k), sub_end HA.out hz2 hz1 (by rw [HN.out]; exact hk2) HL.out (Or.inr (by rw [HN.out]; omega)) hz3, rfl, hz4⟩
end Go.Proofs.Ytejhbjcgacblfaa
