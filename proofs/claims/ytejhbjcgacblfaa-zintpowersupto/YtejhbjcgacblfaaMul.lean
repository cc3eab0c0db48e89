/-
  nat.Mul.
-/
import Derived.Test.YtejhbjcgacblfaaAddTimes
namespace Go.Proofs.Ytejhbjcgacblfaa
open Go.RowKit Nt
set_option linter.unusedSimpArgs false
set_option linter.unusedVariables false

set_option maxHeartbeats 1000000 in
theorem mul_nil (w : World) (p q : Option Addr) (n c m d : Nat) (xs ys : List Nat) (h : Sl w p n c xs) (h' : Sl w q m d ys) (h0 : val xs = 0 ∨ val ys = 0) :
    Calls Try.prog 46 #[.slice p n c, .slice q m d] w fun e w' => e = .returned (.slice none 0 0) ∧ w' = w := by
  obtain ⟨la, hla⟩ : ∃ la, (digs (val xs)).length = la := ⟨_, rfl⟩
  obtain ⟨lb, hlb⟩ : ∃ lb, (digs (val ys)).length = lb := ⟨_, rfl⟩
  have T1 := hid (trim_s w p n c la xs hla h)
  have T2 := hid (trim_s w q m d lb ys hlb h')
  have hl0 : la = 0 ∨ lb = 0 := by
    rcases h0 with h0 | h0
    · left; rw [← hla, h0]; rfl
    · right; rw [← hlb, h0]; rfl
  clear h h' h0 hla hlb
  by_cases ha : la = 0
  · subst ha
    go_enter Try.func46, Try.ntmps46
    go_wp2_with fail
    refine T1.out.mono ?_
    rintro e w' ⟨rfl, rfl⟩
    go_wp2_with fail
    refine T2.out.mono ?_
    rintro e w' ⟨rfl, rfl⟩
    go_wp2
    go_ret
    exact ⟨rfl, rfl⟩
  · have hb : lb = 0 := by omega
    subst hb
    have ha' : ((la : Int) == 0) = false := beq_eq_false_iff_ne.2 (by omega)
    go_enter Try.func46, Try.ntmps46
    go_wp2_with fail
    refine T1.out.mono ?_
    rintro e w' ⟨rfl, rfl⟩
    go_wp2_with fail
    refine T2.out.mono ?_
    rintro e w' ⟨rfl, rfl⟩
    go_wp2
    go_ret
    exact ⟨rfl, rfl⟩

/-- One row of the product more. -/
theorem mul_step {A B R mid' : List Nat} {k lb cy a : Nat} (hk : k < A.length) (hR : R.length = k + lb) (ha : A.getD k 0 = a) (hm : mid'.length = lb)
    (hv : val R = val (A.take k) * val B) (hz : val mid' + 4294967296 ^ lb * cy = val (R.drop k) + val B * a) : val (R.take k ++ mid' ++ [cy]) = val (A.take (k + 1)) * val B := by
  have e1 := val_split R k (by omega)
  have e2 : (R.take k).length = k := by simp; omega
  rw [val_take_succ A k hk, ha, Nat.add_mul, ← hv, e1, val_append, val_append, val_one, List.length_append, e2, hm, Nat.pow_add]
  have h2 : 4294967296 ^ k * (val mid' + 4294967296 ^ lb * cy) = 4294967296 ^ k * (val (R.drop k) + val B * a) := by rw [hz]
  rw [Nat.mul_add, Nat.mul_add, ← Nat.mul_assoc] at h2
  have h3 : 4294967296 ^ k * a * val B = 4294967296 ^ k * (val B * a) := by rw [Nat.mul_assoc, Nat.mul_comm a]
  rw [h3]
  omega

set_option maxHeartbeats 2000000 in
theorem mul_pos (w : World) (p q : Option Addr) (n c m d : Nat) (xs ys : List Nat) (h : Sl w p n c xs) (h' : Sl w q m d ys) (hs : n + m ≤ 70368744177664) (h0 : val xs ≠ 0) (h0' : val ys ≠ 0) :
    Calls Try.prog 46 #[.slice p n c, .slice q m d] w fun e w' => ∃ r cr, e = .returned (.slice r (digs (val xs * val ys)).length cr) ∧ Res w w' r cr (val xs * val ys) := by
  obtain ⟨la, hla⟩ : ∃ la, (digs (val xs)).length = la := ⟨_, rfl⟩
  obtain ⟨lb, hlb⟩ : ∃ lb, (digs (val ys)).length = lb := ⟨_, rfl⟩
  have hlan : la ≤ n := by rw [← hla]; exact h.dl
  have hlbm : lb ≤ m := by rw [← hlb]; exact h'.dl
  have hla0 : 0 < la := by
    apply Nat.pos_of_ne_zero; intro e; exact h0 ((digs_length_zero _).1 (hla.trans e))
  have hlb0 : 0 < lb := by
    apply Nat.pos_of_ne_zero; intro e; exact h0' ((digs_length_zero _).1 (hlb.trans e))
  have T1 := hid (trim_s w p n c la xs hla h)
  have T2 := hid (trim_s w q m d lb ys hlb h')
  have HX := hid h.digs
  have HY := hid h'.digs
  rw [hla] at HX
  rw [hlb] at HY
  have hc := h.cap
  have hm := h.max
  have hc' := h'.cap
  have hm' := h'.max
  unfold maxLen at hm hm'
  have M : ∀ W : World, (Instr.makeSlice 22 (.int .i64 ((la : Int) + lb)) (.int .i64 ((la : Int) + lb))).run Try.prog W = .ok (.slice (some ⟨W.heap.size, 0, none⟩) (la + lb) (la + lb)) (W.alloc (.cells (U (List.replicate (la + lb) 0)).toArray 44)) := by
    have := make_u32 (la + lb) (by omega)
    rw [Int.natCast_add] at this
    exact this
  have ha' : ((la : Int) == 0) = false := beq_eq_false_iff_ne.2 (by omega)
  have hb' : ((lb : Int) == 0) = false := beq_eq_false_iff_ne.2 (by omega)
  clear h h' h0 h0' hla hlb
  go_enter Try.func46, Try.ntmps46
  go_wp2_with fail
  refine T1.out.mono ?_
  rintro e w' ⟨rfl, rfl⟩
  go_wp2_with fail
  refine T2.out.mono ?_
  rintro e w' ⟨rfl, rfl⟩
  go_wp2_with fail
  obtain ⟨W, hW⟩ : ∃ W, W = w'.alloc (.cells (U (List.replicate (la + lb) 0)).toArray 44) := ⟨_, rfl⟩
  have HB := hid (show Below w'.heap.size w' W from by rw [hW]; exact (Below.refl _ _).alloc (Nat.le_refl _) _)
  have HG := hid (show Blk W w'.heap.size (List.replicate (la + lb) 0) from by rw [hW]; exact heap_alloc_last _ _)
  rw [← hW]
  clear hW M T1 T2
  obtain ⟨g, hg⟩ : ∃ g, g = w'.heap.size := ⟨_, rfl⟩
  rw [← hg] at HG ⊢
  have HGE := hid hg
  clear hg
  go_loopw [28] (fun i wr => ∃ k : Nat, k ≤ la ∧ i = .int .i64 k ∧ ∃ R : List Nat, Hid (R.length = k + lb ∧ Ok R ∧ val R = val ((digs (val xs)).take k) * val (digs (val ys)) ∧ Wr W g (R ++ List.replicate (la - k) 0) wr)) (fun i _ => la - (intOf i).toNat)
  case atStart =>
    refine ⟨0, Nat.zero_le _, rfl, List.replicate lb 0, by simp, Ok.replicate _, by simp [val, val_replicate], ?_⟩
    have := Wr.refl HG.out
    rw [List.replicate_append_replicate, Nat.sub_zero, Nat.add_comm lb la]
    exact this
  case round =>
    obtain ⟨k, hk, rfl, R, HR⟩ := hrel
    by_cases hlt : k < la
    · obtain ⟨b, o, rfl, hcell⟩ := HR.out.2.2.2.limbs (HX.out.below HB.out).lie (by have := HX.out.apart (g := g) (by rw [HGE.out]; exact Nat.le_refl _); exact this) k (by have := HX.out.len; omega)
      obtain ⟨x, hx⟩ : ∃ x, (digs (val xs)).getD k 0 = x := ⟨_, rfl⟩
      rw [hx] at hcell
      have hxb : x < 4294967296 := by rw [← hx]; exact (ok_digs _).getD k
      have HXK := hid hx
      clear hx
      obtain ⟨r1, r2, r3, r4⟩ := HR.out
      have hblk0 := Wr.blk HG.out r4
      have e0 : R.take k ++ R.drop k ++ List.replicate (la - k) 0 = R ++ List.replicate (la - k) 0 := by rw [List.take_append_drop]
      have etk : (R.take k).length = k := by simp; omega
      have A1 := addTimes_c wr g (R.take k) (R.drop k) (List.replicate (la - k) 0) lb (la + lb - k) q lb d (digs (val ys)) x (by simp; omega) (by omega) (by unfold maxLen; omega) (by rw [e0]; exact hblk0) (r2.drop k)
        ⟨HY.out.len, HY.out.cap, HY.out.max, HY.out.nil, HY.out.ok, r4.limbs (HY.out.below HB.out).lie (HY.out.apart (by rw [HGE.out]; exact Nat.le_refl _))⟩ (HY.out.apart (by rw [HGE.out]; exact Nat.le_refl _)) rfl hxb
      rw [etk] at A1
      have HA1 := hid A1
      have HBK := hid hblk0
      clear A1 r1 r2 r3 r4 hblk0 e0 etk
      go_wp2_with fail
      refine HA1.out.mono ?_
      rintro e w2 ⟨Z, cy, z1, z2, z3, z4, rfl, z5⟩
      have hbk2 : Blk w2 g (R.take k ++ Z ++ List.replicate (la - k) 0) := Wr.blk HBK.out z5
      have hlen : (R.take k ++ Z ++ List.replicate (la - k) 0).length = la + lb := by have := HR.out.1; simp [z1]; omega
      have hc2 := hbk2.cell (k + lb) (by rw [hlen]; omega)
      have hf2 := hbk2.frozen (k + lb)
      have HZ := hid (And.intro z1 (And.intro z2 (And.intro z3 (And.intro z4 z5))))
      obtain ⟨v0, hv0⟩ : ∃ v0, (R.take k ++ Z ++ List.replicate (la - k) 0).getD (k + lb) 0 = v0 := ⟨_, rfl⟩
      rw [hv0] at hc2
      clear z1 z2 z4 z5 hbk2 hlen hv0 HA1
      go_wp2
      go_roundw
      case rel =>
        obtain ⟨z1, z2, z3, z4, z5⟩ := HZ.out
        obtain ⟨r1, r2, r3, r4⟩ := HR.out
        refine ⟨k + 1, by omega, by go_num, R.take k ++ Z ++ [cy], ?_, ?_, ?_, ?_⟩
        · simp [z1]; omega
        · exact ((r2.take k).append z2).snoc z3
        · exact mul_step (by rw [HX.out.len]; exact hlt) r1 HXK.out z1 r3 z4
        · have hw : Wr W g (R.take k ++ Z ++ List.replicate (la - k) 0) w2 := r4.trans z5
          have := Wr.next' (pre := R.take k ++ Z) (zs := []) (A := List.replicate (la - k) 0) (post := []) (k := 0) (i := k + lb) (v := (cy : Int)) (z := cy) HG.out rfl (by simp; omega) (by simpa using hw) (by simp [z1]; omega) rfl
          simp only [List.nil_append, List.append_nil, List.drop_replicate, Nat.zero_add] at this
          rw [show la - (k + 1) = la - k - 1 from by omega]
          simpa [List.append_assoc] using this
      case measure => simp [intOf]; omega
    · obtain ⟨r1, r2, r3, r4⟩ := HR.out
      have hkl : k = la := by omega
      subst hkl
      rw [Nat.sub_self, List.replicate_zero, List.append_nil] at r4
      rw [List.take_of_length_le (by rw [HX.out.len]; exact Nat.le_refl _), val_digs, val_digs] at r3
      have hblk := Wr.blk HG.out r4
      have T3 := hid (trim_s wr (some ⟨g, 0, none⟩) (k + lb) (k + lb) (digs (val xs * val ys)).length R (by rw [r3]) ⟨r1, Nat.le_refl _, by unfold maxLen; omega, (fun e => by cases e), r2, hblk.limbs⟩)
      have RR := hid (Res.row (w := w') (w' := wr) (r4.below HB.out (by rw [HGE.out]; exact Nat.le_refl _)) hblk r2 r3 (by rw [HGE.out]; exact Nat.le_refl _) r1 (by unfold maxLen; omega))
      clear r1 r2 r3 r4 hblk
      go_wp2_with fail
      refine T3.out.mono ?_
      rintro e w3 ⟨rfl, rfl⟩
      go_wp2
      go_ret
      exact ⟨_, _, rfl, RR.out⟩

theorem mul_c (w : World) (p q : Option Addr) (n c m d : Nat) (xs ys : List Nat) (h : Sl w p n c xs) (h' : Sl w q m d ys) (hs : n + m ≤ 70368744177664) :
    Calls Try.prog 46 #[.slice p n c, .slice q m d] w fun e w' => ∃ r cr, e = .returned (.slice r (digs (val xs * val ys)).length cr) ∧ Res w w' r cr (val xs * val ys) := by
  by_cases h0 : val xs = 0
  · refine (mul_nil w p q n c m d xs ys h h' (Or.inl h0)).mono ?_
    rintro e w' ⟨rfl, rfl⟩
    rw [h0, Nat.zero_mul]
    exact ⟨none, 0, rfl, Res.nil (Below.refl _ _)⟩
  by_cases h1 : val ys = 0
  · refine (mul_nil w p q n c m d xs ys h h' (Or.inr h1)).mono ?_
    rintro e w' ⟨rfl, rfl⟩
    rw [h1, Nat.mul_zero]
    exact ⟨none, 0, rfl, Res.nil (Below.refl _ _)⟩
  exact mul_pos w p q n c m d xs ys h h' hs h0 h1
end Go.Proofs.Ytejhbjcgacblfaa
