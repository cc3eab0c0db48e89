/-
  The document's own answers: Cmp, Bits.
-/
import Derived.Test.YtejhbjcgacblfaaBits
namespace Go.Proofs.Ytejhbjcgacblfaa
open Go.RowKit Nt
set_option linter.unusedSimpArgs false
set_option linter.unusedVariables false

/-- Limbs with noughts laid behind them. -/
def pad (xs : List Nat) (m : Nat) : List Nat := xs ++ List.replicate (m - xs.length) 0
theorem pad_length {xs : List Nat} {m : Nat} (h : xs.length ≤ m) : (pad xs m).length = m := by simp [pad]; omega
theorem pad_val (xs : List Nat) (m : Nat) : val (pad xs m) = val xs := by rw [pad, val_append, val_replicate]; simp
theorem pad_ok {xs : List Nat} (h : Ok xs) (m : Nat) : Ok (pad xs m) := h.append (Ok.replicate _)
theorem pad_get (xs : List Nat) (m j : Nat) : (pad xs m).getD j 0 = xs.getD j 0 := by
  unfold pad
  by_cases h : j < xs.length
  · simp [List.getD_eq_getElem?_getD, List.getElem?_append_left h]
  · rw [List.getD_eq_getElem?_getD, List.getD_eq_getElem?_getD, List.getElem?_append_right (by omega), List.getElem?_eq_none (by omega : xs.length ≤ j)]
    by_cases h2 : j - xs.length < m - xs.length
    · simp [List.getElem?_replicate, h2]
    · simp [List.getElem?_replicate, h2]

theorem cmp_pad {xs ys : List Nat} {m k : Nat} (hx : Ok xs) (lx : xs.length ≤ m) (ly : ys.length ≤ m) (hk : k < m)
    (he : ∀ j, k < j → j < m → xs.getD j 0 = ys.getD j 0) (hlt : xs.getD k 0 < ys.getD k 0) : val xs < val ys := by
  have := cmp_at (xs := pad xs m) (ys := pad ys m) (by rw [pad_length lx, pad_length ly]) (pad_ok hx m) (k := k) (by rw [pad_length lx]; exact hk)
    (fun j h1 h2 => by rw [pad_get, pad_get]; exact he j h1 (by rw [pad_length lx] at h2; exact h2)) (by rw [pad_get, pad_get]; exact hlt)
  rwa [pad_val, pad_val] at this
theorem same_pad {xs ys : List Nat} {m : Nat} (lx : xs.length ≤ m) (ly : ys.length ≤ m) (he : ∀ j, j < m → xs.getD j 0 = ys.getD j 0) : val xs = val ys := by
  have : pad xs m = pad ys m := by
    apply List.ext_getElem (by rw [pad_length lx, pad_length ly])
    intro i h1 h2
    have := he i (by rw [pad_length lx] at h1; exact h1)
    rw [← pad_get xs m, ← pad_get ys m] at this
    simpa [h1, h2] using this
  rw [← pad_val xs m, this, pad_val]

set_option maxHeartbeats 1000000 in
theorem rcmp_c (w : World) (p q : Option Addr) (n c m d : Nat) (xs ys : List Nat) (h : Sl w p n c xs) (h' : Sl w q m d ys) :
    Calls Try.prog 58 #[.slice p n c, .slice q m d] w fun e w' => e = .returned (.int .i64 (cmpN (val xs) (val ys))) ∧ w' = w := by
  have HX := hid h
  have HY := hid h'
  have hm := h.max
  have hc := h.cap
  have hm' := h'.max
  have hc' := h'.cap
  unfold maxLen at hm hm'
  clear h h'
  obtain ⟨M, hM⟩ : ∃ M, max n m = M := ⟨_, rfl⟩
  have C := hid (rmost_c w n m (by omega) (by omega))
  rw [hM] at C
  have hMn : n ≤ M := by omega
  have hMm : m ≤ M := by omega
  have hMx : M ≤ 9223372036854775807 := by omega
  clear hM
  go_enter Try.func58, Try.ntmps58
  go_wp2_with fail
  refine C.out.mono ?_
  rintro e w' ⟨rfl, rfl⟩
  go_wp2_with fail
  go_loop [5] (fun i => ∃ k : Nat, k ≤ M ∧ i = .int .i64 ((k : Int) - 1) ∧ Hid (∀ j, k ≤ j → j < M → xs.getD j 0 = ys.getD j 0)) (fun i => (intOf i + 1).toNat)
  case atStart => exact ⟨M, Nat.le_refl _, rfl, fun j h1 h2 => by omega⟩
  case round =>
    obtain ⟨k, hk, rfl, HZ⟩ := hrel
    by_cases hlt : 0 < k
    · obtain ⟨x, hx⟩ : ∃ x, xs.getD (k - 1) 0 = x := ⟨_, rfl⟩
      obtain ⟨y, hy⟩ : ∃ y, ys.getD (k - 1) 0 = y := ⟨_, rfl⟩
      have L1 := rlimb_c w' p n c xs HX.out ((k : Int) - 1) (k - 1) (by omega)
      have L2 := rlimb_c w' q m d ys HY.out ((k : Int) - 1) (k - 1) (by omega)
      rw [hx] at L1
      rw [hy] at L2
      have HL1 := hid L1
      have HL2 := hid L2
      have HXK := hid hx
      have HYK := hid hy
      clear L1 L2 hx hy
      by_cases hxy : x < y
      · go_wp2_with fail
        refine HL1.out.mono ?_
        rintro e w2 ⟨rfl, rfl⟩
        go_wp2_with fail
        refine HL2.out.mono ?_
        rintro e w2 ⟨rfl, rfl⟩
        go_wp2
        go_ret
        have := cmp_pad HX.out.ok (by rw [HX.out.len]; exact hMn) (by rw [HY.out.len]; exact hMm) (k := k - 1) (by omega) (fun j h1 h2 => HZ.out j (by omega) h2) (by rw [HXK.out, HYK.out]; exact hxy)
        exact ⟨ret_int (by simp [cmpN, this]), rfl⟩
      · by_cases hyx : y < x
        · go_wp2_with fail
          refine HL1.out.mono ?_
          rintro e w2 ⟨rfl, rfl⟩
          go_wp2_with fail
          refine HL2.out.mono ?_
          rintro e w2 ⟨rfl, rfl⟩
          go_wp2
          go_ret
          have := cmp_pad HY.out.ok (by rw [HY.out.len]; exact hMm) (by rw [HX.out.len]; exact hMn) (k := k - 1) (by omega) (fun j h1 h2 => (HZ.out j (by omega) h2).symm) (by rw [HXK.out, HYK.out]; exact hyx)
          have h1 : ¬ val xs < val ys := by omega
          have h2 : ¬ val xs = val ys := by omega
          exact ⟨ret_int (by simp [cmpN, h1, h2]), rfl⟩
        · have hxe : x = y := by omega
          subst hxe
          go_wp2_with fail
          refine HL1.out.mono ?_
          rintro e w2 ⟨rfl, rfl⟩
          go_wp2_with fail
          refine HL2.out.mono ?_
          rintro e w2 ⟨rfl, rfl⟩
          go_wp2
          go_round
          case rel =>
            refine ⟨k - 1, by omega, by go_num, ?_⟩
            intro j h1 h2
            by_cases e : j = k - 1
            · rw [e, HXK.out, HYK.out]
            · exact HZ.out j (by omega) h2
          case measure => simp [intOf]; omega
    · go_wp2
      go_ret
      have := same_pad (m := M) (by rw [HX.out.len]; exact hMn) (by rw [HY.out.len]; exact hMm) (fun j h2 => HZ.out j (by omega) h2)
      exact ⟨ret_int (by simp [cmpN, this]), rfl⟩

theorem bl_half {x : Nat} (h : x ≠ 0) : Go.bitLen x = Go.bitLen (x / 2) + 1 := by
  obtain ⟨s1, s2⟩ := bitLen_spec (x / 2)
  apply bl_unique
  · rw [Nat.pow_succ]; omega
  · intro _
    rw [Nat.add_sub_cancel]
    by_cases h0 : x / 2 = 0
    · rw [h0]; simp [Go.bitLen]; omega
    · have s3 := s2 h0
      have hb : Go.bitLen (x / 2) ≠ 0 := by intro e; rw [e] at s1; simp at s1; exact h0 (by omega)
      have e : Go.bitLen (x / 2) = (Go.bitLen (x / 2) - 1) + 1 := by omega
      rw [e, Nat.pow_succ]
      omega

set_option maxHeartbeats 1000000 in
theorem rbits_c (w : World) (p : Option Addr) (n c : Nat) (xs : List Nat) (h : Sl w p n c xs) (hs : n ≤ 288230376151711743) :
    Calls Try.prog 44 #[.slice p n c] w fun e w' => e = .returned (.int .i64 (Go.bitLen (val xs) : Nat)) ∧ w' = w := by
  have HX := hid h
  have hm := h.max
  have hc := h.cap
  unfold maxLen at hm
  clear h
  go_enter Try.func44, Try.ntmps44
  go_wp2_with fail
  go_loop [3] (fun i => ∃ k : Nat, k ≤ n ∧ i = .int .i64 ((k : Int) - 1) ∧ Hid (∀ j, k ≤ j → j < n → xs.getD j 0 = 0)) (fun i => (intOf i + 1).toNat)
  case atStart => exact ⟨n, Nat.le_refl _, rfl, fun j h1 h2 => by omega⟩
  case round =>
    obtain ⟨k, hk, rfl, HZ⟩ := hrel
    by_cases hlt : 0 < k
    · obtain ⟨b, o, rfl, hcell⟩ := HX.out.lie (k - 1) (by rw [HX.out.len]; omega)
      obtain ⟨x, hx⟩ : ∃ x, xs.getD (k - 1) 0 = x := ⟨_, rfl⟩
      rw [hx] at hcell
      have hxb : x < 4294967296 := by rw [← hx]; exact HX.out.ok.getD _
      have HXK := hid hx
      clear hx
      by_cases h0 : x = 0
      · subst h0
        go_wp2
        go_round
        case rel =>
          refine ⟨k - 1, by omega, by go_num, ?_⟩
          intro j h1 h2
          by_cases e : j = k - 1
          · rw [e, HXK.out]
          · exact HZ.out j (by omega) h2
        case measure => simp [intOf]; omega
      · have hne : ((x : Int) != 0) = true := by rw [bne_iff_ne]; omega
        have HT := hid (bl_top HX.out.ok (k := k - 1) (by rw [HX.out.len]; omega) (fun j h1 h2 => HZ.out j (by omega) (by rw [← HX.out.len]; exact h2)) HXK.out h0)
        obtain ⟨B, hB⟩ : ∃ B, 32 * (k - 1) + Go.bitLen x = B := ⟨_, rfl⟩
        have hBb : B ≤ 9223372036854775807 := by have := bl_le32 hxb; omega
        have HBB := hid hB
        clear hB
        go_wp2
        go_loop [4, 5] (fun v u => ∃ y z : Nat, y < 4294967296 ∧ u = .int .u32 y ∧ v = .int .i64 z ∧ z ≤ B ∧ Hid (z + Go.bitLen y = B)) (fun _ u => (intOf u).toNat)
        case atStart => exact ⟨x, 32 * (k - 1), hxb, rfl, by go_num, by have := HBB.out; omega, HBB.out⟩
        case round =>
          obtain ⟨y, z, hy, rfl, rfl, hzB, HY⟩ := hrel
          by_cases hy0 : y = 0
          · subst hy0
            go_wp2
            go_ret
            refine ⟨ret_int ?_, rfl⟩
            rw [HT.out, HBB.out]
            have := HY.out
            simp [Go.bitLen] at this
            omega
          · have hz1 : z + 1 ≤ B := by have := HY.out; rw [bl_half hy0] at this; omega
            have hyp : 0 < y := by omega
            go_wp2
            go_round
            case rel => exact ⟨y / 2, z + 1, by omega, by go_num, by go_num, by omega, by have := HY.out; rw [bl_half hy0] at this; unfold Hid; omega⟩
            case measure => simp [intOf]; omega
    · go_wp2
      go_ret
      have hv : val xs = 0 := by
        have := same_pad (xs := xs) (ys := []) (m := n) (by rw [HX.out.len]; exact Nat.le_refl _) (by simp) (fun j h2 => by rw [HZ.out j (by omega) h2]; simp)
        rw [this]; rfl
      exact ⟨ret_int (by rw [hv]; rfl), rfl⟩
end Go.Proofs.Ytejhbjcgacblfaa
