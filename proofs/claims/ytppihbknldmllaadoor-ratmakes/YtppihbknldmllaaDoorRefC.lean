/-
  The document's own answers: Add, less, Sub.
-/
import Derived.Test.YtppihbknldmllaaDoorRefB
namespace Go.Proofs.YtppihbknldmllaaDoor
open Go.RowKit Nt
set_option linter.unusedSimpArgs false
set_option linter.unusedVariables false
set_option maxRecDepth 20000

theorem getD_take_step (xs : List Nat) (k : Nat) : val (xs.take (k + 1)) = val (xs.take k) + 4294967296 ^ k * xs.getD k 0 := by
  by_cases h : k < xs.length
  · exact val_take_succ xs k h
  · rw [List.take_of_length_le (by omega), List.take_of_length_le (by omega), List.getD_eq_getElem?_getD, List.getElem?_eq_none (by omega)]
    simp

theorem take_val {ys : List Nat} {n : Nat} (h : val ys < 4294967296 ^ n) : val (ys.take n) = val ys := by
  by_cases hn : n ≤ ys.length
  · have e := val_split ys n hn
    have hz : val (ys.drop n) = 0 := by
      apply Classical.byContradiction
      intro hne
      have : 4294967296 ^ n * 1 ≤ 4294967296 ^ n * val (ys.drop n) := Nat.mul_le_mul_left _ (by omega)
      omega
    rw [hz, Nat.mul_zero, Nat.add_zero] at e
    exact e.symm
  · rw [List.take_of_length_le (by omega)]

set_option maxHeartbeats 1000000 in
theorem rless_c (w : World) (p q : Option Addr) (n c m d : Nat) (xs ys : List Nat) (h : Sl w p n c xs) (h' : Sl w q m d ys) (hs : n ≤ 35184372088832) (hle : val ys ≤ val xs) :
    Calls Tryd.prog 41 #[.slice p n c, .slice q m d] w fun e w' => ∃ r cr, e = .returned (.slice r (digs (val xs - val ys)).length cr) ∧ Ans w w' r cr (val xs - val ys) := by
  have HX := hid h
  have HY := hid h'
  have HLE := hid hle
  have hm := h.max
  have hc := h.cap
  unfold maxLen at hm
  clear h h' hle
  go_enter Tryd.func41, Tryd.ntmps41
  go_wp2_with fail
  go_loopw [5, 6, 7] (fun v cv i wr => ∃ k cy : Nat, k ≤ n ∧ i = .int .i64 k ∧ cv = .int .u64 cy ∧ cy ≤ 1 ∧ ∃ Z : List Nat, Hid (Z.length = k ∧ Ok Z ∧ val Z + val (ys.take k) = val (xs.take k) + 4294967296 ^ k * cy ∧ Own wr w.heap.size v Z ∧ Below w.heap.size w wr)) (fun _ _ i _ => n - (intOf i).toNat)
  case atStart => exact ⟨0, 0, Nat.zero_le _, rfl, rfl, by omega, [], rfl, Ok.nil, rfl, Own.nil _ _, Below.refl _ _⟩
  case round =>
    obtain ⟨k, cy, hk, rfl, rfl, hcy, Z, HZ⟩ := hrel
    by_cases hlt : k < n
    · obtain ⟨x, hx⟩ : ∃ x, xs.getD k 0 = x := ⟨_, rfl⟩
      obtain ⟨y, hy⟩ : ∃ y, ys.getD k 0 = y := ⟨_, rfl⟩
      have hxb : x < 4294967296 := by rw [← hx]; exact HX.out.ok.getD k
      have hyb : y < 4294967296 := by rw [← hy]; exact HY.out.ok.getD k
      have L1 := rlimb_c wr p n c xs (HX.out.below HZ.out.2.2.2.2) (k : Int) k rfl
      have L2 := rlimb_c wr q m d ys (HY.out.below HZ.out.2.2.2.2) (k : Int) k rfl
      rw [hx] at L1
      rw [hy] at L2
      have HL1 := hid L1
      have HL2 := hid L2
      have HXK := hid hx
      have HYK := hid hy
      have HOW := hid HZ.out.2.2.2.1
      have HBE := hid HZ.out.2.2.2.2
      have hzl : Z.length = k := HZ.out.1
      clear L1 L2 hx hy
      by_cases hb : x < y + cy
      · go_wp2_with fail
        refine HL1.out.mono ?_
        rintro e w1 ⟨rfl, rfl⟩
        go_wp2_with fail
        refine HL2.out.mono ?_
        rintro e w1 ⟨rfl, rfl⟩
        go_wp2_with (at_builtin; refine append_u32 _ rfl (.tmp 29) (.tmp 34) rfl w.heap.size _ Z rfl (HOW.out.alloc _) ⟨w1.heap.size, 0, none⟩ 1 1 [x + 4294967296 - (y + cy)] rfl rfl (limbs_lit w1 _ (by omega)) (by omega) (by have := HBE.out.size; simp; omega) ?_; intro v' w2 hown' hbel; have HN := hid hown'; have HNB := hid ((HBE.out.alloc HBE.out.size _).trans hbel); clear hown' hbel)
        go_roundw
        case rel =>
          obtain ⟨h1, h2, h3, h4, h5⟩ := HZ.out
          refine ⟨k + 1, 1, by omega, by go_num, by go_num, by omega, Z ++ [x + 4294967296 - (y + cy)], by simp [h1], h2.snoc (by omega), ?_, HN.out, HNB.out⟩
          rw [val_snoc, h1, getD_take_step xs k, getD_take_step ys k, Nat.pow_succ, HXK.out, HYK.out]
          exact borrow_step h3 (by omega)
        case measure => simp [intOf]; omega
      · go_wp2_with fail
        refine HL1.out.mono ?_
        rintro e w1 ⟨rfl, rfl⟩
        go_wp2_with fail
        refine HL2.out.mono ?_
        rintro e w1 ⟨rfl, rfl⟩
        go_wp2_with (at_builtin; refine append_u32 _ rfl (.tmp 29) (.tmp 34) rfl w.heap.size _ Z rfl (HOW.out.alloc _) ⟨w1.heap.size, 0, none⟩ 1 1 [x - (y + cy)] rfl rfl (limbs_lit w1 _ (by omega)) (by omega) (by have := HBE.out.size; simp; omega) ?_; intro v' w2 hown' hbel; have HN := hid hown'; have HNB := hid ((HBE.out.alloc HBE.out.size _).trans hbel); clear hown' hbel)
        go_roundw
        case rel =>
          obtain ⟨h1, h2, h3, h4, h5⟩ := HZ.out
          refine ⟨k + 1, 0, by omega, by go_num, by go_num, by omega, Z ++ [x - (y + cy)], by simp [h1], h2.snoc (by omega), ?_, HN.out, HNB.out⟩
          rw [val_snoc, h1, getD_take_step xs k, getD_take_step ys k, Nat.pow_succ, HXK.out, HYK.out]
          exact borrow_step h3 (by omega)
        case measure => simp [intOf]; omega
    · have hkn : k = n := by omega
      have hval : Hid (val Z = val xs - val ys) := by
        obtain ⟨h1, h2, h3, h4, h5⟩ := HZ.out
        have hx := val_lt HX.out.ok
        rw [HX.out.len] at hx
        have hy : val ys < 4294967296 ^ n := Nat.lt_of_le_of_lt HLE.out hx
        rw [hkn, take_val hy, List.take_of_length_le (by rw [HX.out.len]; exact Nat.le_refl _)] at h3
        have hzlt := val_lt h2
        rw [h1, hkn] at hzlt
        have hle := HLE.out
        have hc0 : cy = 0 := by
          apply Classical.byContradiction
          intro hne
          have : 4294967296 ^ n * 1 ≤ 4294967296 ^ n * cy := Nat.mul_le_mul_left _ (by omega)
          omega
        rw [hc0, Nat.mul_zero] at h3
        unfold Hid
        omega
      obtain ⟨r, cr, hv, hsl⟩ := HZ.out.2.2.2.1.sl HZ.out.2.1
      rw [HZ.out.1, hkn] at hv hsl
      subst hv
      have HSL := hid hsl
      have HBE := hid HZ.out.2.2.2.2
      have HKN := hid hkn
      clear hsl hkn
      go_wp2_with fail
      refine (rnorm_c _ r n cr Z HSL.out (by omega)).mono ?_
      rintro e w3 ⟨r3, c3, rfl, A3⟩
      rw [hval.out] at A3 ⊢
      have HA := hid (A3.since HBE.out)
      clear A3
      go_wp2
      go_ret
      exact ⟨r3, c3, rfl, HA.out⟩

theorem sub_below (w : World) (p q : Option Addr) (n c m d : Nat) (xs ys : List Nat) (h : Sl w p n c xs) (h' : Sl w q m d ys) (hlt : val xs < val ys) :
    Calls Tryd.prog 63 #[.slice p n c, .slice q m d] w fun e w' => e = .returned (.tuple #[.slice none 0 0, .int .i64 10]) ∧ ∃ nq, w' = w.drewN nq := by
  have C := cmp_s w p q n c m d xs ys h h'
  have e : cmpN (val xs) (val ys) = -1 := by simp [cmpN, hlt]
  rw [e] at C
  have HC := hid C
  clear C e h h' hlt
  go_enter Tryd.func63, Tryd.ntmps63
  go_wp2_with fail
  refine HC.out.mono ?_
  rintro e w' ⟨rfl, nq, rfl⟩
  go_wp2
  go_ret2
  exact ⟨rfl, dr1 _ _⟩
end Go.Proofs.YtppihbknldmllaaDoor
