/-
  The document's own answers: Add, less, Sub.
-/
import Derived.Test.YtejhbjcgacblfaaRefB
namespace Go.Proofs.Ytejhbjcgacblfaa
open Go.RowKit Nt
set_option linter.unusedSimpArgs false
set_option linter.unusedVariables false

theorem getD_take_step (xs : List Nat) (k : Nat) : val (xs.take (k + 1)) = val (xs.take k) + 4294967296 ^ k * xs.getD k 0 := by
  by_cases h : k < xs.length
  · exact val_take_succ xs k h
  · rw [List.take_of_length_le (by omega), List.take_of_length_le (by omega), List.getD_eq_getElem?_getD, List.getElem?_eq_none (by omega)]
    simp

set_option maxHeartbeats 1000000 in
theorem radd_c (w : World) (p q : Option Addr) (n c m d : Nat) (xs ys : List Nat) (h : Sl w p n c xs) (h' : Sl w q m d ys) (hs : n ≤ 35184372088831) (hs' : m ≤ 35184372088831) :
    Calls Try.prog 63 #[.slice p n c, .slice q m d] w fun e w' => ∃ r cr, e = .returned (.slice r (digs (val xs + val ys)).length cr) ∧ Ans w w' r cr (val xs + val ys) := by
  have HX := hid h
  have HY := hid h'
  have hm := h.max
  have hc := h.cap
  have hm' := h'.max
  have hc' := h'.cap
  unfold maxLen at hm hm'
  clear h h'
  obtain ⟨M, hM⟩ : ∃ M, max n m = M := ⟨_, rfl⟩
  have C : Hid (∀ W : World, Calls Try.prog 72 #[.int .i64 n, .int .i64 m] W fun e w' => e = .returned (.int .i64 (M : Nat)) ∧ w' = W) := by
    intro W
    have := rmost_c W n m (by omega) (by omega)
    rw [hM] at this
    exact this
  have hMn : n ≤ M := by omega
  have hMm : m ≤ M := by omega
  have hMx : M ≤ 35184372088831 := by omega
  clear hM
  go_enter Try.func63, Try.ntmps63
  go_wp2_with fail
  go_loopw [5, 6, 7] (fun v cv i wr => ∃ k cy : Nat, k ≤ M ∧ i = .int .i64 k ∧ cv = .int .u64 cy ∧ cy ≤ 1 ∧ ∃ Z : List Nat, Hid (Z.length = k ∧ Ok Z ∧ val Z + 4294967296 ^ k * cy = val (xs.take k) + val (ys.take k) ∧ Own wr w.heap.size v Z ∧ Below w.heap.size w wr)) (fun _ _ i _ => M - (intOf i).toNat)
  case atStart => exact ⟨0, 0, Nat.zero_le _, rfl, rfl, by omega, [], rfl, Ok.nil, rfl, Own.nil _ _, Below.refl _ _⟩
  case round =>
    obtain ⟨k, cy, hk, rfl, rfl, hcy, Z, HZ⟩ := hrel
    by_cases hlt : k < M
    · obtain ⟨x, hx⟩ : ∃ x, xs.getD k 0 = x := ⟨_, rfl⟩
      obtain ⟨y, hy⟩ : ∃ y, ys.getD k 0 = y := ⟨_, rfl⟩
      have hxb : x < 4294967296 := by rw [← hx]; exact HX.out.ok.getD k
      have hyb : y < 4294967296 := by rw [← hy]; exact HY.out.ok.getD k
      have L1 := rlimb_c wr p n c xs (HX.out.below HZ.out.2.2.2.2) (k : Int) k rfl
      have L2 := rlimb_c wr q m d ys (HY.out.below HZ.out.2.2.2.2) (k : Int) k rfl
      rw [hx] at L1
      rw [hy] at L2
      have HL1 := hid L1
      have HL2 := hid L2
      have HXK := hid hx
      have HYK := hid hy
      clear L1 L2 hx hy
      go_wp2_with fail
      refine (C.out _).mono ?_
      rintro e w1 ⟨rfl, rfl⟩
      go_wp2_with fail
      refine HL1.out.mono ?_
      rintro e w1 ⟨rfl, rfl⟩
      go_wp2_with fail
      refine HL2.out.mono ?_
      rintro e w1 ⟨rfl, rfl⟩
      obtain ⟨h1, h2, h3, h4, h5⟩ := HZ.out
      have HOW := hid h4
      have HBE := hid h5
      have hzl : Z.length = k := h1
      clear h1 h2 h3 h4 h5
      go_wp2_with (at_builtin; refine append_u32 _ rfl (.tmp 26) (.tmp 30) rfl w.heap.size _ Z rfl (HOW.out.alloc _) ⟨w1.heap.size, 0, none⟩ 1 1 [(cy + x + y) % 4294967296] rfl rfl (limbs_lit w1 _ (by omega)) (by omega) (by have := HBE.out.size; simp; omega) ?_; intro v' w2 hown' hbel; have HN := hid hown'; have HNB := hid ((HBE.out.alloc HBE.out.size _).trans hbel); clear hown' hbel)
      go_roundw
      case rel =>
        obtain ⟨h1, h2, h3, h4, h5⟩ := HZ.out
        refine ⟨k + 1, (cy + x + y) / 4294967296, by omega, by go_num, by go_num, by omega, Z ++ [(cy + x + y) % 4294967296], by simp [h1], h2.snoc (by omega), ?_, HN.out, HNB.out⟩
        rw [val_snoc, h1, getD_take_step xs k, getD_take_step ys k, Nat.pow_succ, HXK.out, HYK.out]
        have := carry_step (t := x + y) (z := (cy + x + y) % 4294967296) (cy' := (cy + x + y) / 4294967296) h3 (by omega)
        rw [this, Nat.mul_add]
        omega
      case measure => simp [intOf]; omega
    · obtain ⟨h1, h2, h3, h4, h5⟩ := HZ.out
      have HOW := hid h4
      have HBE := hid h5
      have hzl : Z.length = k := h1
      have hkM : k = M := by omega
      have HKM := hid hkM
      clear h1 h2 h3 h4 h5 hkM
      have hval : Hid (Ok (Z ++ [cy]) ∧ val (Z ++ [cy]) = val xs + val ys) := by
        obtain ⟨h1, h2, h3, h4, h5⟩ := HZ.out
        refine ⟨h2.snoc (by omega), ?_⟩
        rw [val_snoc, h1, h3, List.take_of_length_le (by rw [HX.out.len]; omega), List.take_of_length_le (by rw [HY.out.len]; omega)]
      go_wp2_with (first
        | (go_at_call 72; refine (C.out _).mono ?_; rintro e w1 ⟨rfl, rfl⟩)
        | (at_builtin; refine append_u32 _ rfl (.tmp 34) (.tmp 37) rfl w.heap.size _ Z rfl (HOW.out.alloc _) ⟨World.heap _ |>.size, 0, none⟩ 1 1 [cy] rfl rfl (limbs_lit _ _ rfl) (by omega) (by have := HBE.out.size; simp; omega) ?_; intro v' w2 hown' hbel; obtain ⟨r, cr, rfl, hsl⟩ := hown'.sl hval.out.1; have HSL := hid hsl; have HNB := hid ((HBE.out.alloc HBE.out.size _).trans hbel); clear hown' hbel hsl)
        | (go_at_call 35; fail))
      have HS2 : Hid (Sl w2 r (k + 1) cr (Z ++ [cy])) := by have := HSL.out; rw [show (Z ++ [cy]).length = k + 1 from by simp [hzl]] at this; exact this
      refine (rnorm_c _ r (k + 1) cr (Z ++ [cy]) HS2.out (by omega)).mono ?_
      rintro e w3 ⟨r3, c3, rfl, A3⟩
      rw [hval.out.2] at A3 ⊢
      have HA := hid (A3.since HNB.out)
      clear A3
      go_wp2
      go_ret
      exact ⟨r3, c3, rfl, HA.out⟩

theorem take_val {ys : List Nat} {n : Nat} (h : val ys < 4294967296 ^ n) : val (ys.take n) = val ys := by
  by_cases hn : n ≤ ys.length
  · have e := val_split ys n hn
    have hz : val (ys.drop n) = 0 := by
      apply Classical.byContradiction
      intro hne
      have : 4294967296 ^ n * 1 ≤ 4294967296 ^ n * val (ys.drop n) := Nat.mul_le_mul_left _ (by omega)
      omega
    rw [hz, Nat.mul_zero, Nat.add_zero] at e
    exact e.symm
  · rw [List.take_of_length_le (by omega)]

set_option maxHeartbeats 1000000 in
theorem rless_c (w : World) (p q : Option Addr) (n c m d : Nat) (xs ys : List Nat) (h : Sl w p n c xs) (h' : Sl w q m d ys) (hs : n ≤ 35184372088832) (hle : val ys ≤ val xs) :
    Calls Try.prog 60 #[.slice p n c, .slice q m d] w fun e w' => ∃ r cr, e = .returned (.slice r (digs (val xs - val ys)).length cr) ∧ Ans w w' r cr (val xs - val ys) := by
  have HX := hid h
  have HY := hid h'
  have HLE := hid hle
  have hm := h.max
  have hc := h.cap
  unfold maxLen at hm
  clear h h' hle
  go_enter Try.func60, Try.ntmps60
  go_wp2_with fail
  go_loopw [5, 6, 7] (fun v cv i wr => ∃ k cy : Nat, k ≤ n ∧ i = .int .i64 k ∧ cv = .int .u64 cy ∧ cy ≤ 1 ∧ ∃ Z : List Nat, Hid (Z.length = k ∧ Ok Z ∧ val Z + val (ys.take k) = val (xs.take k) + 4294967296 ^ k * cy ∧ Own wr w.heap.size v Z ∧ Below w.heap.size w wr)) (fun _ _ i _ => n - (intOf i).toNat)
  case atStart => exact ⟨0, 0, Nat.zero_le _, rfl, rfl, by omega, [], rfl, Ok.nil, rfl, Own.nil _ _, Below.refl _ _⟩
  case round =>
    obtain ⟨k, cy, hk, rfl, rfl, hcy, Z, HZ⟩ := hrel
    by_cases hlt : k < n
    · obtain ⟨x, hx⟩ : ∃ x, xs.getD k 0 = x := ⟨_, rfl⟩
      obtain ⟨y, hy⟩ : ∃ y, ys.getD k 0 = y := ⟨_, rfl⟩
      have hxb : x < 4294967296 := by rw [← hx]; exact HX.out.ok.getD k
      have hyb : y < 4294967296 := by rw [← hy]; exact HY.out.ok.getD k
      have L1 := rlimb_c wr p n c xs (HX.out.below HZ.out.2.2.2.2) (k : Int) k rfl
      have L2 := rlimb_c wr q m d ys (HY.out.below HZ.out.2.2.2.2) (k : Int) k rfl
      rw [hx] at L1
      rw [hy] at L2
      have HL1 := hid L1
      have HL2 := hid L2
      have HXK := hid hx
      have HYK := hid hy
      have HOW := hid HZ.out.2.2.2.1
      have HBE := hid HZ.out.2.2.2.2
      have hzl : Z.length = k := HZ.out.1
      clear L1 L2 hx hy
      by_cases hb : x < y + cy
      · go_wp2_with fail
        refine HL1.out.mono ?_
        rintro e w1 ⟨rfl, rfl⟩
        go_wp2_with fail
        refine HL2.out.mono ?_
        rintro e w1 ⟨rfl, rfl⟩
        go_wp2_with (at_builtin; refine append_u32 _ rfl (.tmp 29) (.tmp 34) rfl w.heap.size _ Z rfl (HOW.out.alloc _) ⟨w1.heap.size, 0, none⟩ 1 1 [x + 4294967296 - (y + cy)] rfl rfl (limbs_lit w1 _ (by omega)) (by omega) (by have := HBE.out.size; simp; omega) ?_; intro v' w2 hown' hbel; have HN := hid hown'; have HNB := hid ((HBE.out.alloc HBE.out.size _).trans hbel); clear hown' hbel)
        go_roundw
        case rel =>
          obtain ⟨h1, h2, h3, h4, h5⟩ := HZ.out
          refine ⟨k + 1, 1, by omega, by go_num, by go_num, by omega, Z ++ [x + 4294967296 - (y + cy)], by simp [h1], h2.snoc (by omega), ?_, HN.out, HNB.out⟩
          rw [val_snoc, h1, getD_take_step xs k, getD_take_step ys k, Nat.pow_succ, HXK.out, HYK.out]
          exact borrow_step h3 (by omega)
        case measure => simp [intOf]; omega
      · go_wp2_with fail
        refine HL1.out.mono ?_
        rintro e w1 ⟨rfl, rfl⟩
        go_wp2_with fail
        refine HL2.out.mono ?_
        rintro e w1 ⟨rfl, rfl⟩
        go_wp2_with (at_builtin; refine append_u32 _ rfl (.tmp 29) (.tmp 34) rfl w.heap.size _ Z rfl (HOW.out.alloc _) ⟨w1.heap.size, 0, none⟩ 1 1 [x - (y + cy)] rfl rfl (limbs_lit w1 _ (by omega)) (by omega) (by have := HBE.out.size; simp; omega) ?_; intro v' w2 hown' hbel; have HN := hid hown'; have HNB := hid ((HBE.out.alloc HBE.out.size _).trans hbel); clear hown' hbel)
        go_roundw
        case rel =>
          obtain ⟨h1, h2, h3, h4, h5⟩ := HZ.out
          refine ⟨k + 1, 0, by omega, by go_num, by go_num, by omega, Z ++ [x - (y + cy)], by simp [h1], h2.snoc (by omega), ?_, HN.out, HNB.out⟩
          rw [val_snoc, h1, getD_take_step xs k, getD_take_step ys k, Nat.pow_succ, HXK.out, HYK.out]
          exact borrow_step h3 (by omega)
        case measure => simp [intOf]; omega
    · have hkn : k = n := by omega
      have hval : Hid (val Z = val xs - val ys) := by
        obtain ⟨h1, h2, h3, h4, h5⟩ := HZ.out
        have hx := val_lt HX.out.ok
        rw [HX.out.len] at hx
        have hy : val ys < 4294967296 ^ n := Nat.lt_of_le_of_lt HLE.out hx
        rw [hkn, take_val hy, List.take_of_length_le (by rw [HX.out.len]; exact Nat.le_refl _)] at h3
        have hzlt := val_lt h2
        rw [h1, hkn] at hzlt
        have hle := HLE.out
        have hc0 : cy = 0 := by
          apply Classical.byContradiction
          intro hne
          have : 4294967296 ^ n * 1 ≤ 4294967296 ^ n * cy := Nat.mul_le_mul_left _ (by omega)
          omega
        rw [hc0, Nat.mul_zero] at h3
        unfold Hid
        omega
      obtain ⟨r, cr, hv, hsl⟩ := HZ.out.2.2.2.1.sl HZ.out.2.1
      rw [HZ.out.1, hkn] at hv hsl
      subst hv
      have HSL := hid hsl
      have HBE := hid HZ.out.2.2.2.2
      have HKN := hid hkn
      clear hsl hkn
      go_wp2_with fail
      refine (rnorm_c _ r n cr Z HSL.out (by omega)).mono ?_
      rintro e w3 ⟨r3, c3, rfl, A3⟩
      rw [hval.out] at A3 ⊢
      have HA := hid (A3.since HBE.out)
      clear A3
      go_wp2
      go_ret
      exact ⟨r3, c3, rfl, HA.out⟩

theorem rsub_c (w : World) (p q : Option Addr) (n c m d : Nat) (xs ys : List Nat) (h : Sl w p n c xs) (h' : Sl w q m d ys) (hs : n ≤ 35184372088832) (hle : val ys ≤ val xs) :
    Calls Try.prog 64 #[.slice p n c, .slice q m d] w fun e w' => ∃ r cr, e = .returned (.tuple #[.slice r (digs (val xs - val ys)).length cr, .int .i64 0]) ∧ Ans w w' r cr (val xs - val ys) := by
  have C := hid (rcmp_c w p q n c m d xs ys h h')
  have hcv0 : 0 ≤ cmpN (val xs) (val ys) := by
    unfold cmpN
    have h1 : ¬ val xs < val ys := by omega
    by_cases e : val xs = val ys <;> simp [h1, e]
  generalize cmpN (val xs) (val ys) = cv at *
  have L := hid (rless_c w p q n c m d xs ys h h' hs hle)
  clear h h' hs hle
  go_enter Try.func64, Try.ntmps64
  go_wp2_with fail
  refine C.out.mono ?_
  rintro e w1 ⟨rfl, rfl⟩
  go_wp2_with fail
  refine L.out.mono ?_
  rintro e w2 ⟨r, cr, rfl, A⟩
  have HA := hid A
  clear A
  go_wp2
  go_ret2
  exact ⟨r, cr, rfl, HA.out⟩
theorem rsub_below (w : World) (p q : Option Addr) (n c m d : Nat) (xs ys : List Nat) (h : Sl w p n c xs) (h' : Sl w q m d ys) (hlt : val xs < val ys) :
    Calls Try.prog 64 #[.slice p n c, .slice q m d] w fun e w' => e = .returned (.tuple #[.slice none 0 0, .int .i64 10]) ∧ w' = w := by
  have C := rcmp_c w p q n c m d xs ys h h'
  have e : cmpN (val xs) (val ys) = -1 := by simp [cmpN, hlt]
  rw [e] at C
  have HC := hid C
  clear C e h h' hlt
  go_enter Try.func64, Try.ntmps64
  go_wp2_with fail
  refine HC.out.mono ?_
  rintro e w1 ⟨rfl, rfl⟩
  go_wp2
  go_ret2
  exact ⟨rfl, rfl⟩
theorem sub_below (w : World) (p q : Option Addr) (n c m d : Nat) (xs ys : List Nat) (h : Sl w p n c xs) (h' : Sl w q m d ys) (hlt : val xs < val ys) :
    Calls Try.prog 31 #[.slice p n c, .slice q m d] w fun e w' => e = .returned (.tuple #[.slice none 0 0, .int .i64 10]) ∧ ∃ nq, w' = w.drewN nq := by
  have C := cmp_s w p q n c m d xs ys h h'
  have e : cmpN (val xs) (val ys) = -1 := by simp [cmpN, hlt]
  rw [e] at C
  have HC := hid C
  clear C e h h' hlt
  go_enter Try.func31, Try.ntmps31
  go_wp2_with fail
  refine HC.out.mono ?_
  rintro e w' ⟨rfl, nq, rfl⟩
  go_wp2
  go_ret2
  exact ⟨rfl, dr1 _ _⟩
end Go.Proofs.Ytejhbjcgacblfaa
