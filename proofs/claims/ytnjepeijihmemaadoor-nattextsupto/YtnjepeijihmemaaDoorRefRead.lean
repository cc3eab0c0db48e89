/-
  The document's Read.
-/
import Derived.Test.YtnjepeijihmemaaDoorRefMul
import Derived.Test.YtnjepeijihmemaaDoorAwake
import Derived.Test.YtnjepeijihmemaaDoorReadMath
import Derived.Test.YtnjepeijihmemaaDoorOfDigits
import Derived.Deep.LoopGhost
import Derived.Deep.RegionHeld3
namespace Go.Proofs.YtnjepeijihmemaaDoor
open Go.RowKit Nt
set_option linter.unusedSimpArgs false
set_option linter.unusedVariables false

theorem rread_long (w : World) (s : ByteArray) (h : 65536 < s.size) (h2 : s.size ≤ 9223372036854775807) :
    Calls Tryd.prog 6 #[.string s] w fun e w' => e = .returned (.tuple #[.slice none 0 0, .int .i64 0, .int .i64 2]) ∧ w' = w := by
  go_enter Tryd.func6, Tryd.ntmps6
  go_wp2_with fail
  go_ret3
  exact ⟨rfl, rfl⟩
theorem rread_empty (w : World) : Calls Tryd.prog 6 #[.string ⟨#[]⟩] w fun e w' => e = .returned (.tuple #[.slice none 0 0, .int .i64 0, .int .i64 4]) ∧ w' = w := by
  have h0 : (⟨#[]⟩ : ByteArray).size = 0 := rfl
  go_enter Tryd.func6, Tryd.ntmps6
  go_wp2_with fail
  go_ret3
  exact ⟨rfl, rfl⟩
theorem be_a (w : World) (o : Obj) : Below w.heap.size w (w.alloc o).drew := ((Below.refl _ _).alloc (Nat.le_refl _) _).drew
theorem be_b (w : World) (o o' : Obj) : Below w.heap.size w ((w.alloc o).alloc o').drew := (((Below.refl _ _).alloc (Nat.le_refl _) _).alloc (by simp) _).drew
theorem lit_0 (w : World) (x : Nat) (z : Int) (hz : z = x) : Blk (w.alloc (.cells #[.int .u32 z] 39)) w.heap.size [x] := blk_one hz (heap_alloc_last w _)
theorem lit_a (w : World) (x : Nat) (z : Int) (hz : z = x) : Blk (w.alloc (.cells #[.int .u32 z] 39)).drew w.heap.size [x] := blk_one hz (heap_alloc_last w _)
theorem lit_b (w : World) (x : Nat) (z : Int) (hz : z = x) (o : Obj) : Blk ((w.alloc (.cells #[.int .u32 z] 39)).alloc o).drew w.heap.size [x] := blk_one hz ((heap_alloc_old' _ o _ (by simp)).trans (heap_alloc_last w _))
theorem lit_c (w : World) (x : Nat) (z : Int) (hz : z = x) (o : Obj) : Blk ((w.alloc o).alloc (.cells #[.int .u32 z] 39)).drew (w.heap.size + 1) [x] := by
  have := heap_alloc_last (w.alloc o) (.cells #[.int .u32 z] 39)
  rw [show (w.alloc o).heap.size = w.heap.size + 1 from by simp] at this
  exact blk_one hz this
theorem decV_lt : ∀ (l : List UInt8) (k : Nat), (∀ j, j < k → dig (l.getD j 0)) → k ≤ l.length → decV (l.take k) < 10 ^ k
  | l, 0, _, _ => by simp [decV]
  | l, k + 1, h, hk => by
    have h1 := decV_lt l k (fun j hj => h j (by omega)) (by omega)
    have h2 := h k (by omega)
    unfold dig at h2
    rw [take_snocB l k (by omega), decV_snoc, Nat.pow_succ]
    omega

set_option maxHeartbeats 4000000 in
theorem rread_c (w : World) (s : ByteArray) (h0 : 0 < s.size) (hs : s.size ≤ 65536) :
    Calls Tryd.prog 6 #[.string s] w fun e w' => (∃ i : Nat, i < s.size ∧ bad s.data.toList i ∧ (∀ j, j < i → ¬ bad s.data.toList j) ∧ e = .returned (.tuple #[.slice none 0 0, .int .i64 i, .int .i64 4]) ∧ Below w.heap.size w w') ∨
      ((∀ j, j < s.size → ¬ bad s.data.toList j) ∧ ∃ r cr, e = .returned (.tuple #[.slice r (digs (decV s.data.toList)).length cr, .int .i64 0, .int .i64 0]) ∧ Sl w' r (digs (decV s.data.toList)).length cr (digs (decV s.data.toList)) ∧ Below w.heap.size w w') := by
  have hz : ((s.size : Int) == 0) = false := beq_eq_false_iff_ne.2 (by omega)
  go_enter Tryd.func6, Tryd.ntmps6
  go_wp2_with fail
  go_loopg [5, 6] s.size (fun gk s5 s6 wr => ∃ (i R : Nat) (r : Option Addr) (cr : Nat), s.size - i ≤ gk ∧ i ≤ s.size ∧ (digs R).length ≤ i ∧ s6 = .int .i64 i ∧ s5 = .slice r (digs R).length cr ∧ Hid (Sl wr r (digs R).length cr (digs R) ∧ Below w.heap.size w wr ∧ R = decV (s.data.toList.take i) ∧ ∀ j, j < i → ¬ bad s.data.toList j))
  case atStart => exact ⟨0, 0, none, 0, Nat.sub_le _ _, Nat.zero_le _, Nat.le_refl _, rfl, rfl, Sl.none _, Below.refl _ _, rfl, fun j hj => by omega⟩
  case round =>
    obtain ⟨i, R, r, cr, hgk, hi, hRl, rfl, rfl, HR⟩ := hrel
    by_cases hlt : i < s.size
    · obtain ⟨d, hd⟩ : ∃ d, (s[i]'hlt).toNat = d := ⟨_, rfl⟩
      have hdb : d < 256 := by rw [← hd]; exact (s[i]'hlt).toNat_lt
      obtain ⟨b0, hb0⟩ : ∃ b, (s[0]'h0).toNat = b := ⟨_, rfl⟩
      have HB0 := hid (show s.data.toList.getD 0 0 = 48 ↔ b0 = 48 from by
        rw [data_getD s 0 h0, ← hb0]
        constructor
        · intro e; rw [e]; rfl
        · intro e; exact UInt8.toNat_inj.1 e)
      have HDG := hid (show dig (s.data.toList.getD i 0) ↔ 48 ≤ d ∧ d ≤ 57 from by
        rw [data_getD s i hlt]
        unfold dig
        rw [hd])
      by_cases hdg : 48 ≤ d ∧ d ≤ 57
      · obtain ⟨d1, d2⟩ := hdg
        by_cases hone : i = 1 ∧ b0 = 48
        · obtain ⟨hi1, hb48⟩ := hone
          have hbz : (s[0]'h0).toNat = 48 := by omega
          have HBAD : Hid (bad s.data.toList i) := Or.inr ⟨by omega, HB0.out.2 hb48⟩
          have HF := hid (And.intro HR.out.2.1 HR.out.2.2.2)
          have hi1e : ((i : Int) == 1) = true := by rw [hi1]; rfl
          clear HR hb0 hi1
          go_wp2_with fail
          go_ret3
          exact Or.inl ⟨i, hlt, HBAD.out, HF.out.2, rfl, HF.out.1⟩
        · obtain ⟨lR, hlR⟩ : ∃ l, (digs R).length = l := ⟨_, rfl⟩
          rw [hlR] at hRl ⊢
          have HLR := hid hlR
          clear hlR
          have NXT : Hid ((digs (R * 10 + (d - 48))).length ≤ i + 1 ∧ R * 10 + (d - 48) = decV (s.data.toList.take (i + 1)) ∧ ∀ j, j < i + 1 → ¬ bad s.data.toList j) := by
            have e : R * 10 + (d - 48) = decV (s.data.toList.take (i + 1)) := by
              rw [take_snocB _ _ (by simpa using hlt), decV_snoc, ← HR.out.2.2.1, data_getD s i hlt, hd]
            have hnb : ∀ j, j < i + 1 → ¬ bad s.data.toList j := by
              intro j hj
              rcases Nat.lt_or_ge j i with h | h
              · exact HR.out.2.2.2 j h
              · obtain rfl : j = i := by omega
                rintro (hb | ⟨hb, hb'⟩)
                · exact hb (HDG.out.2 ⟨d1, d2⟩)
                · rcases Nat.lt_or_ge 1 j with h2 | h2
                  · exact HR.out.2.2.2 1 h2 (Or.inr ⟨by omega, hb'⟩)
                  · exact hone ⟨by omega, HB0.out.1 hb'⟩
            refine ⟨?_, e, hnb⟩
            apply digs_length_le
            rw [e]
            have h1 := decV_lt s.data.toList (i + 1) (fun j hj => by
              apply Classical.byContradiction
              intro hc
              exact hnb j hj (Or.inl hc)) (by simp; omega)
            exact Nat.lt_of_lt_of_le h1 (Nat.pow_le_pow_left (by omega) _)
          have hid2 : d - 48 < 10 := by omega
          have MUL : Hid (∀ (W : World) (g : Nat), Below wr.heap.size wr W → Blk W g [10] → Calls Tryd.prog 17 #[.slice r lR cr, .slice (some ⟨g, 0, none⟩) 1 1] W fun e w' => ∃ (r1 : Option Addr) (l1 c1 : Nat), e = .returned (.slice r1 l1 c1) ∧ Sl w' r1 l1 c1 (digs (R * 10)) ∧ l1 ≤ i + 1 ∧ Below W.heap.size W w' ∧ Below wr.heap.size wr w') := by
            intro W g hW hg
            have hSR : Sl W r lR cr (digs R) := by rw [← HLR.out]; exact HR.out.1.below hW
            have := rmul_c W r (some ⟨g, 0, none⟩) lR cr 1 1 (digs R) [10] hSR (sl_one hg (by omega)) (by omega)
            rw [val_digs, val_one] at this
            refine this.mono ?_
            rintro e w' ⟨r1, c1, rfl, A1⟩
            refine ⟨r1, _, c1, rfl, A1.sl, ?_, A1.below, hW.trans (A1.below.mono hW.size)⟩
            have h1 : (digs R).length ≤ i := by rw [HLR.out]; exact hRl
            have h2 : (digs 10).length ≤ 1 := digs_length_le (by decide)
            exact digs_mul_len h1 h2
          have ADD : Hid (∀ (W : World) (r1 : Option Addr) (l1 c1 g : Nat), Below wr.heap.size wr W → Sl W r1 l1 c1 (digs (R * 10)) → l1 ≤ i + 1 → Blk W g [d - 48] → Calls Tryd.prog 16 #[.slice r1 l1 c1, .slice (some ⟨g, 0, none⟩) 1 1] W fun e w' => ∃ (r2 : Option Addr) (c2 : Nat), e = .returned (.slice r2 (digs (R * 10 + (d - 48))).length c2) ∧ Sl w' r2 (digs (R * 10 + (d - 48))).length c2 (digs (R * 10 + (d - 48))) ∧ Below wr.heap.size wr w') := by
            intro W r1 l1 c1 g hW h1 hl1 hg
            have := radd_c W r1 (some ⟨g, 0, none⟩) l1 c1 1 1 (digs (R * 10)) [d - 48] h1 (sl_one hg (by omega)) (by omega) (by omega)
            rw [val_digs, val_one] at this
            refine this.mono ?_
            rintro e w' ⟨r2, c2, rfl, A1⟩
            exact ⟨r2, c2, rfl, A1.sl, hW.trans (A1.below.mono hW.size)⟩
          by_cases hi1 : i = 1
          · have hi1e : ((i : Int) == 1) = true := by rw [hi1]; rfl
            have hbz : (((s[0]'h0).toNat : Int) == 48) = false := beq_eq_false_iff_ne.2 (by have : b0 ≠ 48 := fun e => hone ⟨hi1, e⟩; omega)
            clear hb0 hi1 hone
            go_wp2_with fail
            have H10 := hid (show (10 : Int) = ((10 : Nat) : Int) from rfl)
            have HDZ := hid (show IntKind.u32.wrap (IntKind.u8.wrap ((d : Int) - 48)) = ((d - 48 : Nat) : Int) from by
              simp only [IntKind.wrap_u32, IntKind.wrap_u8]
              omega)
            go_region_with (first
              | (go_at_call 17; refine (MUL.out _ _ (by first | with_reducible exact be_a _ _ | with_reducible exact be_b _ _ _) (by first | with_reducible exact lit_a wr 10 10 H10.out | with_reducible exact lit_b wr 10 10 H10.out _ | with_reducible exact lit_c wr 10 10 H10.out _)).mono ?_; rintro e w1 ⟨r1, l1, c1, rfl, s1, y1, b1, bw1⟩; have HS1 := hid s1; have HB1 := hid b1; have HW1 := hid bw1; clear s1 b1 bw1)
              | (go_at_call 16; refine (ADD.out _ r1 l1 c1 _ (by first | with_reducible exact HW1.out | exact HW1.out.alloc HW1.out.size _) (by first | with_reducible exact HS1.out | exact HS1.out.below ((Below.refl _ _).alloc (Nat.le_refl _) _)) y1 (by first | with_reducible exact lit_0 w1 _ _ HDZ.out | exact (lit_b wr _ _ HDZ.out _).below HB1.out | exact (lit_c wr _ _ HDZ.out _).below HB1.out)).mono ?_; rintro e w2 ⟨r2, c2, rfl, s2, b2⟩; have HS2 := hid s2; have HW2 := hid b2; clear s2 b2)
              | fail)
            all_goals go_wp2_with fail
            all_goals go_roundg (s.size - (i + 1))
            all_goals first
              | omega
              | exact ⟨i + 1, R * 10 + (d - 48), r2, c2, Nat.le_refl _, by omega, NXT.out.1, by go_num, rfl, HS2.out, HR.out.2.1.trans (HW2.out.mono HR.out.2.1.size), NXT.out.2.1, NXT.out.2.2⟩
          · have hi1e : ((i : Int) == 1) = false := beq_eq_false_iff_ne.2 (by omega)
            go_wp2_with fail
            have H10 := hid (show (10 : Int) = ((10 : Nat) : Int) from rfl)
            have HDZ := hid (show IntKind.u32.wrap (IntKind.u8.wrap ((d : Int) - 48)) = ((d - 48 : Nat) : Int) from by
              simp only [IntKind.wrap_u32, IntKind.wrap_u8]
              omega)
            go_region_with (first
              | (go_at_call 17; refine (MUL.out _ _ (by first | with_reducible exact be_a _ _ | with_reducible exact be_b _ _ _) (by first | with_reducible exact lit_a wr 10 10 H10.out | with_reducible exact lit_b wr 10 10 H10.out _ | with_reducible exact lit_c wr 10 10 H10.out _)).mono ?_; rintro e w1 ⟨r1, l1, c1, rfl, s1, y1, b1, bw1⟩; have HS1 := hid s1; have HB1 := hid b1; have HW1 := hid bw1; clear s1 b1 bw1)
              | (go_at_call 16; refine (ADD.out _ r1 l1 c1 _ (by first | with_reducible exact HW1.out | exact HW1.out.alloc HW1.out.size _) (by first | with_reducible exact HS1.out | exact HS1.out.below ((Below.refl _ _).alloc (Nat.le_refl _) _)) y1 (by first | with_reducible exact lit_0 w1 _ _ HDZ.out | exact (lit_b wr _ _ HDZ.out _).below HB1.out | exact (lit_c wr _ _ HDZ.out _).below HB1.out)).mono ?_; rintro e w2 ⟨r2, c2, rfl, s2, b2⟩; have HS2 := hid s2; have HW2 := hid b2; clear s2 b2)
              | fail)
            all_goals go_wp2_with fail
            all_goals go_roundg (s.size - (i + 1))
            all_goals first
              | omega
              | exact ⟨i + 1, R * 10 + (d - 48), r2, c2, Nat.le_refl _, by omega, NXT.out.1, by go_num, rfl, HS2.out, HR.out.2.1.trans (HW2.out.mono HR.out.2.1.size), NXT.out.2.1, NXT.out.2.2⟩
      · have HBAD : Hid (bad s.data.toList i) := Or.inl (fun h => hdg (HDG.out.1 h))
        have HF := hid (And.intro HR.out.2.1 HR.out.2.2.2)
        clear HR hb0
        rcases Nat.lt_or_ge d 48 with h | h
        · clear hdg
          go_wp2_with fail
          go_ret3
          exact Or.inl ⟨i, hlt, HBAD.out, HF.out.2, rfl, HF.out.1⟩
        · have h57 : 57 < d := by omega
          have h48 : ¬ (d : Int) < 48 := by omega
          clear hdg
          go_wp2_with fail
          go_ret3
          exact Or.inl ⟨i, hlt, HBAD.out, HF.out.2, rfl, HF.out.1⟩
    · have his : i = s.size := by omega
      obtain ⟨e1, e2, e3, e4⟩ := HR.out
      rw [his, List.take_of_length_le (by simp)] at e3
      rw [his] at e4
      subst e3
      have HF := hid (And.intro e1 (And.intro e2 e4))
      clear e1 e2 e4 HR his
      go_wp2_with fail
      go_ret3
      exact Or.inr ⟨HF.out.2.2, r, cr, rfl, HF.out.1, HF.out.2.1⟩
end Go.Proofs.YtnjepeijihmemaaDoor
