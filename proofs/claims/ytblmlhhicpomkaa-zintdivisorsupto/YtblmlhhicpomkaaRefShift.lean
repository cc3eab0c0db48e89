/-
  The document's own answers: Two, Shl, Shr.
-/
import Derived.Test.YtblmlhhicpomkaaSetU
import Derived.Test.YtblmlhhicpomkaaSetC
namespace Go.Proofs.Ytblmlhhicpomkaa
open Go.RowKit Nt
set_option linter.unusedSimpArgs false
set_option linter.unusedVariables false

theorem len_of_bits {v b K : Nat} (hv : v < 2 ^ b) (hb : b ≤ 32 * K) : (digs v).length ≤ K := by
  apply digs_length_le
  have h8 : (4294967296 : Nat) ^ K = 2 ^ (32 * K) := by rw [Nat.pow_mul]
  rw [h8]
  exact Nat.lt_of_lt_of_le hv (Nat.pow_le_pow_right (by omega) hb)
theorem tmod32 (D : Nat) : ((D : Int)).tmod 4294967296 % 4294967296 = ((D % 4294967296 : Nat) : Int) := by
  rw [Int.tmod_eq_emod_of_nonneg (by omega)]; omega

set_option maxHeartbeats 4000000 in
theorem rtwo_g (w : World) (x : Nat) (hx : x ≤ 562949953421312) :
    Calls Try.prog 55 #[.int .i64 x] w fun e w' => ∃ r cr, e = .returned (.slice r (x / 32 + 1) cr) ∧ ∃ T, Sl w' r (x / 32 + 1) cr T ∧ val T = 2 ^ x ∧ Below w.heap.size w w' := by
  obtain ⟨skip, hskip⟩ : ∃ skip, x / 32 = skip := ⟨_, rfl⟩
  obtain ⟨s, hs⟩ : ∃ s, x % 32 = s := ⟨_, rfl⟩
  obtain ⟨P, hP⟩ : ∃ P, 2 ^ s = P := ⟨_, rfl⟩
  have hsb : s < 32 := by omega
  have hPi : (2 : Int) ^ s = (P : Int) := by rw [← hP]; simp
  have hP1 : P ≤ 2147483648 := by rw [← hP]; exact Nat.pow_le_pow_right (n := 2) (by omega) (show s ≤ 31 by omega)
  have hq : (x : Int) / 32 = (skip : Int) := by omega
  have hr : (x : Int) % 32 = (s : Int) := by omega
  have hv : Hid (val (List.replicate skip 0 ++ [P]) = 2 ^ x) := by
    show val (List.replicate skip 0 ++ [P]) = 2 ^ x
    rw [val_append, val_replicate, List.length_replicate, val_one, Nat.zero_add, ← hP, show (4294967296 : Nat) = 2 ^ 32 from rfl, ← Nat.pow_mul, ← Nat.pow_add]
    congr 1
    omega
  have hsk : skip ≤ 17592186044416 := by omega
  rw [hskip]
  clear hskip hs hP
  go_enter Try.func55, Try.ntmps55
  go_wp2_with fail
  go_loopw [3, 4] (fun v i wr => ∃ k : Nat, k ≤ skip ∧ i = .int .i64 k ∧ Hid (Own wr w.heap.size v (List.replicate k 0) ∧ Below w.heap.size w wr)) (fun _ i _ => skip - (intOf i).toNat)
  case atStart => exact ⟨0, Nat.zero_le _, rfl, Own.nil _ _, Below.refl _ _⟩
  case round =>
    obtain ⟨k, hk, rfl, HK⟩ := hrel
    by_cases hlt : k < skip
    · go_wp2_with (at_builtin; refine append_u32 _ rfl (.tmp 11) (.tmp 12) rfl w.heap.size _ (List.replicate k 0) rfl (HK.out.1.alloc _) ⟨wr.heap.size, 0, none⟩ 1 1 [0] rfl rfl (limbs_lit wr 0 rfl) (by simp; omega) (by have := HK.out.2.size; simp; omega) ?_; intro v' w2 hown' hbel; have HN := hid hown'; have HNB := hid ((HK.out.2.alloc HK.out.2.size _).trans hbel); clear hown' hbel)
      go_roundw
      case rel => exact ⟨k + 1, by omega, by go_num, by rw [List.replicate_succ']; exact HN.out, HNB.out⟩
      case measure => simp [intOf]; omega
    · have hks : k = skip := by omega
      subst hks
      go_wp2_with (at_builtin; refine append_u32 _ rfl (.tmp 14) (.tmp 19) rfl w.heap.size _ (List.replicate k 0) rfl (HK.out.1.alloc _) ⟨wr.heap.size, 0, none⟩ 1 1 [P] rfl rfl (limbs_lit wr P (by first | rfl | omega | (simp [IntKind.wrap_u32]; omega))) (by simp; omega) (by have := HK.out.2.size; simp; omega) ?_; intro v' w2 hown' hbel; obtain ⟨r, cr, rfl, hsl⟩ := hown'.sl ((Ok.replicate k).snoc (by omega)); have HSL := hid hsl; have HNB := hid ((HK.out.2.alloc HK.out.2.size _).trans hbel); clear hown' hbel hsl)
      go_ret
      have hl : (List.replicate k 0 ++ [P]).length = k + 1 := by simp
      have h2 := HSL.out
      rw [hl] at h2
      exact ⟨r, cr, rfl, _, h2, hv.out, HNB.out⟩
theorem rtwo_c (w : World) (x : Nat) (hx : x ≤ 1048576) :
    Calls Try.prog 55 #[.int .i64 x] w fun e w' => ∃ r cr, e = .returned (.slice r (x / 32 + 1) cr) ∧ ∃ T, Sl w' r (x / 32 + 1) cr T ∧ val T = 2 ^ x ∧ Below w.heap.size w w' :=
  rtwo_g w x (by omega)

theorem shrl_get (P : Nat) : ∀ (l : List Nat) (j : Nat), j < l.length → (shrl P l).getD j 0 = (l.getD j 0 + 4294967296 * l.getD (j + 1) 0) / P % 4294967296
  | [], j, h => by simp at h
  | x :: r, 0, h => by cases r <;> simp [shrl]
  | x :: r, j + 1, h => by
    have := shrl_get P r j (by simpa using h)
    simpa [shrl] using this

set_option maxHeartbeats 4000000 in
theorem rshr_f (w : World) (p : Option Addr) (n c : Nat) (xs : List Nat) (z : Int) (h : Sl w p n c xs) (hn : n ≤ 35184372088832) (hz : -9223372036854775808 ≤ z) (hz' : z ≤ 9223372036854775807) :
    Calls Try.prog 60 #[.slice p n c, .int .i64 z] w fun e w' => ∃ r cr, e = .returned (.tuple #[.slice r (digs (shrV (val xs) z)).length cr, .int .i64 (shrE z)]) ∧ Ans w w' r cr (shrV (val xs) z) := by
  have HX := hid h
  have hm := h.max
  have hc := h.cap
  unfold maxLen at hm
  by_cases h1 : z < 0
  · have e1 : shrV (val xs) z = 0 := by simp [shrV, h1]
    have e2 : shrE z = 1 := by simp [shrE, h1]
    rw [e1, e2]
    clear h e1 e2
    go_enter Try.func60, Try.ntmps60
    go_wp2_with fail
    go_ret2
    exact ⟨none, 0, rfl, Below.refl _ _, nil_sl _, fun b o e => by cases e⟩
  have e1 : shrV (val xs) z = val xs / 2 ^ z.toNat := by simp [shrV, h1]
  have e2 : shrE z = 0 := by simp [shrE, h1]
  rw [e1, e2]
  obtain ⟨x, rfl⟩ := Int.eq_ofNat_of_zero_le (show 0 ≤ z by omega)
  rw [Int.toNat_natCast]
  obtain ⟨bl, hbl⟩ : ∃ bl, Go.bitLen (val xs) = bl := ⟨_, rfl⟩
  have HBits := hid (rbits_c w p n c xs h (by omega))
  rw [hbl] at HBits
  by_cases h2 : bl ≤ x
  · have hv0 : val xs / 2 ^ x = 0 := by
      have s1 := (bitLen_spec (val xs)).1
      rw [hbl] at s1
      exact Nat.div_eq_of_lt (Nat.lt_of_lt_of_le s1 (Nat.pow_le_pow_right (by omega) h2))
    rw [hv0]
    clear h e1 e2 hbl hv0
    go_enter Try.func60, Try.ntmps60
    go_wp2_with fail
    refine HBits.out.mono ?_
    rintro e W1 ⟨rfl, rfl⟩
    go_wp2_with fail
    go_ret2
    exact ⟨none, 0, rfl, Below.refl _ _, nil_sl _, fun b o e => by cases e⟩
  have hbn : bl ≤ 32 * n := by
    rw [← hbl]
    apply Classical.byContradiction
    intro hc
    obtain ⟨s1, s2⟩ := bitLen_spec (val xs)
    have h0 : val xs ≠ 0 := by intro e; rw [e] at hc; simp [Go.bitLen] at hc
    have h5 := s2 h0
    have h6 := val_lt h.ok
    rw [h.len] at h6
    have h7 : 2 ^ (32 * n) ≤ 2 ^ (Go.bitLen (val xs) - 1) := Nat.pow_le_pow_right (by omega) (by omega)
    have h8 : (4294967296 : Nat) ^ n = 2 ^ (32 * n) := by rw [Nat.pow_mul]
    omega
  obtain ⟨skip, hskip⟩ : ∃ skip, x / 32 = skip := ⟨_, rfl⟩
  obtain ⟨s, hs⟩ : ∃ s, x % 32 = s := ⟨_, rfl⟩
  have hsb : s < 32 := by omega
  have hq : (x : Int) / 32 = (skip : Int) := by omega
  have hr : (x : Int) % 32 = (s : Int) := by omega
  have hskn : skip < n := by omega
  obtain ⟨P, hP⟩ : ∃ P, 2 ^ s = P := ⟨_, rfl⟩
  have hPi : (2 : Int) ^ s = (P : Int) := by rw [← hP]; simp
  have hP0 : 0 < P := by rw [← hP]; exact Nat.two_pow_pos s
  have HPQ : Hid (4294967296 = P * 2 ^ (32 - s)) := by
    show 4294967296 = P * 2 ^ (32 - s)
    rw [← hP, ← Nat.pow_add, show s + (32 - s) = 32 from by omega]
  have hval : val xs / 2 ^ x = val (xs.drop skip) / P := by
    rw [val_drop_div h.ok, ← hP, show (4294967296 : Nat) = 2 ^ 32 from rfl, ← Nat.pow_mul, Nat.div_div_eq_div_mul, ← Nat.pow_add]
    congr 2
    omega
  rw [hval]
  have hx63 : x ≤ 9223372036854775807 := by omega
  clear h e1 e2 hbl hval hskip hs hP hz hz'
  go_enter Try.func60, Try.ntmps60
  go_wp2_with fail
  refine HBits.out.mono ?_
  rintro e W1 ⟨rfl, rfl⟩
  go_wp2_with fail
  go_loopw [6, 7] (fun v i wr => ∃ j : Nat, skip ≤ j ∧ j ≤ n ∧ i = .int .i64 j ∧ Hid (Own wr W1.heap.size v ((shrl P (xs.drop skip)).take (j - skip)) ∧ Below W1.heap.size W1 wr)) (fun _ i _ => n - (intOf i).toNat)
  case atStart => exact ⟨skip, Nat.le_refl _, by omega, by first | rfl | (rw [hq]), by rw [Nat.sub_self]; exact Own.nil _ _, Below.refl _ _⟩
  case round =>
    obtain ⟨j, hj0, hj, rfl, HJ⟩ := hrel
    by_cases hlt : j < n
    · obtain ⟨a, ha⟩ : ∃ a, xs.getD j 0 = a := ⟨_, rfl⟩
      obtain ⟨b, hb⟩ : ∃ b, xs.getD (j + 1) 0 = b := ⟨_, rfl⟩
      have hab : a < 4294967296 := by rw [← ha]; exact HX.out.ok.getD _
      have hbb : b < 4294967296 := by rw [← hb]; exact HX.out.ok.getD _
      have L1 := rlimb_c wr p n c xs (HX.out.below HJ.out.2) (j : Int) j rfl
      have L2 := rlimb_c wr p n c xs (HX.out.below HJ.out.2) ((j : Int) + 1) (j + 1) (by omega)
      rw [ha] at L1
      rw [hb] at L2
      have HL1 := hid L1
      have HL2 := hid L2
      obtain ⟨A, hA⟩ : ∃ A, a + 4294967296 * b = A := ⟨_, rfl⟩
      have hAi : (a : Int) + (b : Int) * 4294967296 = (A : Int) := by omega
      have hAb : A < 18446744073709551616 := by omega
      obtain ⟨D, hD⟩ : ∃ D, A / P = D := ⟨_, rfl⟩
      have hDi : (A : Int) / (P : Int) = (D : Int) := by rw [← hD]; simp
      have hDb : D < 18446744073709551616 := by rw [← hD]; exact Nat.lt_of_le_of_lt (Nat.div_le_self _ _) hAb
      have HD := hid hD
      have HAE := hid hA
      have HAK := hid ha
      have HBK := hid hb
      have hlen : ((shrl P (xs.drop skip)).take (j - skip)).length = j - skip := by rw [List.length_take, shrl_length]; simp; have := HX.out.len; omega
      clear L1 L2 ha hb hA hD
      go_wp2_with fail
      refine HL1.out.mono ?_
      rintro e w1 ⟨rfl, rfl⟩
      go_wp2_with fail
      refine HL2.out.mono ?_
      rintro e w1 ⟨rfl, rfl⟩
      have HLEN := hid hlen
      clear hlen
      go_wp2_with (at_builtin; refine append_u32 _ rfl (.tmp 32) (.tmp 40) rfl W1.heap.size _ ((shrl P (xs.drop skip)).take (j - skip)) rfl (HJ.out.1.alloc _) ⟨w1.heap.size, 0, none⟩ 1 1 [D % 4294967296] rfl rfl (limbs_lit w1 _ (by first | omega | exact tmod32 D)) (by have := HLEN.out; omega) (by have := HJ.out.2.size; simp; omega) ?_; intro v' w2 hown' hbel; have HN := hid hown'; have HNB := hid ((HJ.out.2.alloc HJ.out.2.size _).trans hbel); clear hown' hbel)
      go_roundw
      case rel =>
        refine ⟨j + 1, by omega, by omega, by go_num, ?_, HNB.out⟩
        have hjl : j - skip < (shrl P (xs.drop skip)).length := by rw [shrl_length]; simp; have := HX.out.len; omega
        have hg := shrl_get P (xs.drop skip) (j - skip) (by rw [shrl_length] at hjl; exact hjl)
        have g1 : (xs.drop skip).getD (j - skip) 0 = a := by rw [← HAK.out]; simp [List.getD_eq_getElem?_getD, show skip + (j - skip) = j from by omega]
        have g2 : (xs.drop skip).getD (j - skip + 1) 0 = b := by rw [← HBK.out]; simp [List.getD_eq_getElem?_getD, show skip + (j - skip + 1) = j + 1 from by omega]
        rw [g1, g2, HAE.out, HD.out] at hg
        rw [show j + 1 - skip = j - skip + 1 from by omega, List.take_succ_eq_append_getElem hjl]
        have ge : (shrl P (xs.drop skip))[j - skip] = D % 4294967296 := by
          rw [← hg]; simp [List.getD_eq_getElem?_getD, hjl]
        rw [ge]
        exact HN.out
      case measure => simp [intOf]; omega
    · have hjn : j = n := by omega
      subst hjn
      have hfull : (shrl P (xs.drop skip)).take (j - skip) = shrl P (xs.drop skip) := List.take_of_length_le (by rw [shrl_length]; simp; have := HX.out.len; omega)
      have ho := HJ.out.1
      rw [hfull] at ho
      obtain ⟨r, cr, rfl, hsl⟩ := ho.sl (shrl_ok _ _)
      have hl : (shrl P (xs.drop skip)).length = j - skip := by rw [shrl_length]; simp; have := HX.out.len; omega
      rw [hl] at hsl ⊢
      have HSL := hid hsl
      have HV := hid (shrl_val HPQ.out hP0 _ (HX.out.ok.drop skip))
      clear hfull ho hsl hl
      go_wp2_with fail
      refine (rnorm_c _ r (j - skip) cr (shrl P (xs.drop skip)) HSL.out (by omega)).mono ?_
      rintro e w3 ⟨r3, c3, rfl, A3⟩
      rw [HV.out] at A3 ⊢
      have HA := hid (A3.since HJ.out.2)
      clear A3
      go_wp2
      go_ret2
      exact ⟨r3, c3, rfl, HA.out⟩

theorem rshr_c (w : World) (p : Option Addr) (n c : Nat) (xs : List Nat) (z : Int) (h : Sl w p n c xs) (hn : n ≤ 35184372088832) (hz : -9223372036854775808 ≤ z) (hz' : z ≤ 9223372036854775807) :
    Calls Try.prog 60 #[.slice p n c, .int .i64 z] w fun e w' => ∃ r cr, e = .returned (.tuple #[.slice r (digs (shrV (val xs) z)).length cr, .int .i64 (shrE z)]) ∧ Sl w' r (digs (shrV (val xs) z)).length cr (digs (shrV (val xs) z)) ∧ Below w.heap.size w w' := by
  refine (rshr_f w p n c xs z h hn hz hz').mono ?_
  rintro e w' ⟨r, cr, rfl, A⟩
  exact ⟨r, cr, rfl, A.sl, A.below⟩
end Go.Proofs.Ytblmlhhicpomkaa
