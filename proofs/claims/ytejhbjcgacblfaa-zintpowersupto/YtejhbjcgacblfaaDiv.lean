/-
  nat.Div.
-/
import Derived.Test.YtejhbjcgacblfaaDivLong
import Derived.Test.YtejhbjcgacblfaaDivSmall
import Derived.Test.YtejhbjcgacblfaaAwake
namespace Go.Proofs.Ytejhbjcgacblfaa
open Go.RowKit Nt
set_option linter.unusedSimpArgs false
set_option linter.unusedVariables false

theorem less_of_len {a b : Nat} (h : (digs a).length < (digs b).length) : a < b := by
  have h1 := lt_pow_digs a
  have hb : b ≠ 0 := by
    intro e
    rw [e] at h
    simp [digs_zero] at h
  have h2 := pow_le_digs hb
  have h3 : 4294967296 ^ (digs a).length ≤ 4294967296 ^ ((digs b).length - 1) := Nat.pow_le_pow_right (by omega) (by omega)
  omega

set_option maxHeartbeats 2000000 in
/-- Div by a longer number. -/
theorem div_less (w : World) (p q : Option Addr) (n c m d : Nat) (xs ys : List Nat) (h : Sl w p n c xs) (h' : Sl w q m d ys) (hs : n ≤ 70368744177664) (hl : (digs (val xs)).length < (digs (val ys)).length) :
    Calls Try.prog 29 #[.slice p n c, .slice q m d] w fun e w' => ∃ r cr s cs, e = .returned (.tuple #[.slice r (digs (val xs / val ys)).length cr, .slice s (digs (val xs % val ys)).length cs, .int .i64 0]) ∧ Res w w' r cr (val xs / val ys) ∧ Res w w' s cs (val xs % val ys) ∧ Two r s := by
  have hlt := less_of_len hl
  rw [Nat.div_eq_of_lt hlt, Nat.mod_eq_of_lt hlt]
  obtain ⟨la, hla⟩ : ∃ la, (digs (val xs)).length = la := ⟨_, rfl⟩
  obtain ⟨lb, hlb⟩ : ∃ lb, (digs (val ys)).length = lb := ⟨_, rfl⟩
  rw [hla, hlb] at hl
  have hdl := h.dl
  rw [hla] at hdl
  have T1 := hid (trim_s w p n c la xs hla h)
  have T2 := hid (trim_s w q m d lb ys hlb h')
  have S1 := h.digs
  have S2 := h'.digs
  rw [hla] at S1
  rw [hlb] at S2
  have N1 := norm_c w p la c (digs (val xs)) S1 (by omega)
  rw [val_digs, hla] at N1
  have HN1 := hid N1
  have hm := h.max
  have hm' := h'.max
  have hlan : la ≤ c := S1.cap
  have hlbm : lb ≤ d := S2.cap
  unfold maxLen at hm hm'
  have HLA := hid hla
  rw [hla]
  have hlb1 : ((lb : Int) == 0) = false := beq_eq_false_iff_ne.2 (by omega)
  clear h h' S1 S2 hla hlb N1 hlt
  go_enter Try.func29, Try.ntmps29
  go_wp2_with fail
  refine T1.out.mono ?_
  rintro e w' ⟨rfl, rfl⟩
  go_wp2_with fail
  refine T2.out.mono ?_
  rintro e w' ⟨rfl, rfl⟩
  go_wp2_with fail
  refine HN1.out.mono ?_
  rintro e w2 ⟨rfl, hw2⟩
  have hb : Below w'.heap.size w' w2 := by rw [hw2]; exact (Below.refl _ _).alloc (Nat.le_refl _) _
  have hg : Blk w2 w'.heap.size (digs (val xs)) := by rw [hw2]; exact heap_alloc_last _ _
  have HR := hid (Res.row hb hg (ok_digs _) (val_digs _) (Nat.le_refl _) HLA.out (by unfold maxLen; omega))
  have HR0 := hid (Res.nil hb)
  clear hw2 hb hg
  go_wp2
  go_ret3
  exact ⟨none, 0, _, _, rfl, HR0.out, HR.out, Two.void _⟩

theorem one_limb {ys : List Nat} (h : (digs (val ys)).length = 1) : digs (val ys) = [val ys] ∧ val ys < 4294967296 := by
  have h1 := val_digs (val ys)
  have h2 := ok_digs (val ys)
  match hd : digs (val ys), h with
  | [x], _ =>
    rw [hd] at h1 h2
    rw [val_one] at h1
    subst h1
    exact ⟨rfl, h2.head⟩

set_option maxHeartbeats 2000000 in
/-- Div by one limb. -/
theorem div_one (w : World) (p q : Option Addr) (n c m d : Nat) (xs ys : List Nat) (h : Sl w p n c xs) (h' : Sl w q m d ys) (hs : n ≤ 70368744177664) (hl2 : 2 < (digs (val xs)).length) (hl : (digs (val ys)).length = 1) :
    Calls Try.prog 29 #[.slice p n c, .slice q m d] w fun e w' => ∃ r cr s cs, e = .returned (.tuple #[.slice r (digs (val xs / val ys)).length cr, .slice s (digs (val xs % val ys)).length cs, .int .i64 0]) ∧ Res w w' r cr (val xs / val ys) ∧ Res w w' s cs (val xs % val ys) ∧ Two r s := by
  obtain ⟨la, hla⟩ : ∃ la, (digs (val xs)).length = la := ⟨_, rfl⟩
  obtain ⟨y, hy⟩ : ∃ y, val ys = y := ⟨_, rfl⟩
  obtain ⟨o1, o2⟩ := one_limb hl
  have hy0 : 0 < y := by
    apply Nat.pos_of_ne_zero
    intro e
    rw [hy, e, digs_zero] at hl
    simp at hl
  rw [hy] at o1 o2
  have T1 := hid (trim_s w p n c la xs hla h)
  have T2 := hid (trim_s w q m d 1 ys hl h')
  have S1 := h.digs
  have S2 := h'.digs
  rw [hl, hy, o1] at S2
  rw [hla] at S1 hl2
  have hdl := h.dl
  rw [hla] at hdl
  have N1 := norm_c w p la c (digs (val xs)) S1 (by omega)
  rw [val_digs, hla] at N1
  have HN1 := hid N1
  have hm := h.max
  have hm' := h'.max
  have hlan : la ≤ c := S1.cap
  have hlbm : 1 ≤ d := S2.cap
  unfold maxLen at hm hm'
  have HLA := hid hla
  rw [hy]
  obtain ⟨rr, hrr⟩ : ∃ rr, val xs % y = rr := ⟨_, rfl⟩
  rw [hrr]
  have HRR := hid hrr
  clear hrr
  obtain ⟨b0, o0, rfl, hcell⟩ := S2.lie 0 (by simp)
  have hg1 : ([y] : List Nat).getD 0 0 = y := rfl
  rw [hg1, Nat.add_zero] at hcell
  have HS2 := hid S2
  clear h h' S1 S2 hla N1 hl hy o1 hg1
  go_enter Try.func29, Try.ntmps29
  go_wp2_with fail
  refine T1.out.mono ?_
  rintro e w' ⟨rfl, rfl⟩
  go_wp2_with fail
  refine T2.out.mono ?_
  rintro e w' ⟨rfl, rfl⟩
  go_wp2_with fail
  refine HN1.out.mono ?_
  rintro e w2 ⟨rfl, hw2⟩
  have hb : Below w'.heap.size w' w2 := by rw [hw2]; exact (Below.refl _ _).alloc (Nat.le_refl _) _
  have hg : Blk w2 w'.heap.size (digs (val xs)) := by rw [hw2]; exact heap_alloc_last _ _
  obtain ⟨b1, o1', he, hcell2⟩ := (HS2.out.below hb).lie 0 (by simp)
  simp only [Option.some.injEq, Addr.mk.injEq] at he
  obtain ⟨rfl, rfl, _⟩ := he
  have hg1 : ([y] : List Nat).getD 0 0 = y := rfl
  rw [hg1, Nat.add_zero] at hcell2
  obtain ⟨g, hgg⟩ : ∃ g, g = w'.heap.size := ⟨_, rfl⟩
  have D1 := divSmall_c w2 g (digs (val xs)) [] la la y HLA.out (Nat.le_refl _) (by unfold maxLen; omega) (by rw [List.append_nil, hgg]; exact hg) (ok_digs _) hy0 o2
  rw [val_digs] at D1
  have hrr := HRR.out
  have hrb : rr < 4294967296 := by rw [← hrr]; exact Nat.lt_trans (Nat.mod_lt _ hy0) o2
  rw [hrr] at D1
  rw [← hgg]
  have HD1 := hid D1
  have HB := hid hb
  have HG : Hid (Blk w2 g (digs (val xs) ++ [])) := by rw [List.append_nil, hgg]; exact hg
  have HGG := hid hgg
  clear hw2 hg D1 hcell hg1 hrr HN1 hb hgg
  go_wp2_with fail
  refine HD1.out.mono ?_
  rintro e w3 ⟨Z, z1, z2, z3, rfl, z5⟩
  have hg3 : Blk w3 g (Z ++ []) := Wr.blk HG.out z5
  rw [List.append_nil] at hg3
  have hb3 := z5.below HB.out (by rw [HGG.out]; exact Nat.le_refl _)
  have T3 := hid (trim_s w3 (some ⟨g, 0, none⟩) la la (digs (val xs / y)).length Z (by rw [z3]) ⟨z1, Nat.le_refl _, by unfold maxLen; omega, (fun e => by cases e), z2, hg3.limbs⟩)
  have HR := hid (Res.row hb3 hg3 z2 z3 (by rw [HGG.out]; exact Nat.le_refl _) z1 (by unfold maxLen; omega))
  have HB3 := hid hb3
  clear z1 z2 z3 z5 hg3 hb3 HD1 HG HB
  go_wp2_with fail
  refine T3.out.mono ?_
  rintro e w4 ⟨rfl, rfl⟩
  go_wp2_with fail
  refine (ofWord_i _ _ rr (by rfl) (by omega)).mono ?_
  rintro e w5 ⟨s, cs, rfl, R2⟩
  go_wp2
  go_ret3
  exact ⟨_, _, s, cs, rfl, HR.out.later R2.below, R2.since HB3.out, Two.later (w := w4) HR.out.in R2⟩

set_option maxHeartbeats 2000000 in
/-- Div by two limbs and more. -/
theorem div_long (w : World) (p q : Option Addr) (n c m d : Nat) (xs ys : List Nat) (h : Sl w p n c xs) (h' : Sl w q m d ys) (hs : n + 1 ≤ 70368744177664) (hl2 : 2 < (digs (val xs)).length) (hl : 2 ≤ (digs (val ys)).length) (hle : (digs (val ys)).length ≤ (digs (val xs)).length) :
    Calls Try.prog 29 #[.slice p n c, .slice q m d] w fun e w' => ∃ r cr s cs, e = .returned (.tuple #[.slice r (digs (val xs / val ys)).length cr, .slice s (digs (val xs % val ys)).length cs, .int .i64 0]) ∧ Res w w' r cr (val xs / val ys) ∧ Res w w' s cs (val xs % val ys) ∧ Two r s := by
  obtain ⟨la, hla⟩ : ∃ la, (digs (val xs)).length = la := ⟨_, rfl⟩
  obtain ⟨lb, hlb⟩ : ∃ lb, (digs (val ys)).length = lb := ⟨_, rfl⟩
  have T1 := hid (trim_s w p n c la xs hla h)
  have T2 := hid (trim_s w q m d lb ys hlb h')
  have S1 := h.digs
  have S2 := h'.digs
  rw [hla] at S1 hl2 hle
  rw [hlb] at S2 hl hle
  have hdl := h.dl
  rw [hla] at hdl
  have htop : (digs (val ys)).getD (lb - 1) 0 ≠ 0 := by
    rcases top_digs (val ys) with h0 | h0
    · rw [h0] at hlb
      simp at hlb
      omega
    · rw [hlb] at h0
      exact h0
  have D1 := divLong_c w p q la c lb d (la - lb) (digs (val xs)) (digs (val ys)) (by omega) S1 S2 hl htop (by omega)
  rw [val_digs, val_digs] at D1
  have HD1 := hid D1
  have hm := h.max
  have hm' := h'.max
  have hlan : la ≤ c := S1.cap
  have hlbm : lb ≤ d := S2.cap
  unfold maxLen at hm hm'
  have hlb1 : ((lb : Int) == 0) = false := beq_eq_false_iff_ne.2 (by omega)
  have hlb2 : ((lb : Int) == 1) = false := beq_eq_false_iff_ne.2 (by omega)
  clear h h' S1 S2 hla hlb D1 htop
  go_enter Try.func29, Try.ntmps29
  go_wp2_with fail
  refine T1.out.mono ?_
  rintro e w' ⟨rfl, rfl⟩
  go_wp2_with fail
  refine T2.out.mono ?_
  rintro e w' ⟨rfl, rfl⟩
  go_wp2_with fail
  refine HD1.out.mono ?_
  rintro e w2 ⟨r, cr, s, cs, rfl, R1, R2, R3⟩
  go_wp2
  go_ret3
  exact ⟨r, cr, s, cs, rfl, R1, R2, R3⟩

set_option maxHeartbeats 2000000 in
/-- Div of numbers of at most two limbs. -/
theorem div_word2 (w : World) (p q : Option Addr) (n c m d : Nat) (xs ys : List Nat) (h : Sl w p n c xs) (h' : Sl w q m d ys) (hy : val ys ≠ 0) (h2 : (digs (val xs)).length ≤ 2) (hl : (digs (val ys)).length ≤ (digs (val xs)).length) :
    Calls Try.prog 29 #[.slice p n c, .slice q m d] w fun e w' => ∃ r cr s cs, e = .returned (.tuple #[.slice r (digs (val xs / val ys)).length cr, .slice s (digs (val xs % val ys)).length cs, .int .i64 0]) ∧ Res w w' r cr (val xs / val ys) ∧ Res w w' s cs (val xs % val ys) ∧ Two r s := by
  obtain ⟨la, hla⟩ : ∃ la, (digs (val xs)).length = la := ⟨_, rfl⟩
  obtain ⟨lb, hlb⟩ : ∃ lb, (digs (val ys)).length = lb := ⟨_, rfl⟩
  rw [hla] at h2 hl
  rw [hlb] at hl
  have hlb0 : 0 < lb := by
    apply Nat.pos_of_ne_zero; intro e; exact hy ((digs_length_zero _).1 (hlb.trans e))
  have T1 := hid (trim_s w p n c la xs hla h)
  have T2 := hid (trim_s w q m d lb ys hlb h')
  have S1 := h.digs
  have S2 := h'.digs
  rw [hla] at S1
  rw [hlb] at S2
  have W1 := hid (word_c w p la c (digs (val xs)) S1 h2)
  have W2 := hid (word_c w q lb d (digs (val ys)) S2 (by omega))
  rw [val_digs] at W1 W2
  have hx64 := val_lt_two (ok_digs (val xs)) (by rw [hla]; exact h2)
  have hy64 := val_lt_two (ok_digs (val ys)) (by rw [hlb]; omega)
  rw [val_digs] at hx64 hy64
  have hm := h.max
  have hm' := h'.max
  have hlan : la ≤ c := S1.cap
  have hlbm : lb ≤ d := S2.cap
  unfold maxLen at hm hm'
  clear S1 S2 h h' hla hlb
  generalize val xs = x at *
  generalize val ys = y at *
  obtain ⟨qq, hqq⟩ : ∃ qq, x / y = qq := ⟨_, rfl⟩
  obtain ⟨rr, hrr⟩ : ∃ rr, x % y = rr := ⟨_, rfl⟩
  have hq : (x : Int) / (y : Int) = (qq : Int) := by rw [← hqq]; exact (Int.natCast_ediv x y).symm
  have hr : (x : Int).tmod (y : Int) = (rr : Int) := by rw [← hrr]; exact (Int.ofNat_tmod x y).symm
  have hqb : qq < 18446744073709551616 := by rw [← hqq]; exact Nat.lt_of_le_of_lt (Nat.div_le_self _ _) hx64
  have hrb : rr < 18446744073709551616 := by rw [← hrr]; exact Nat.lt_of_le_of_lt (Nat.mod_le _ _) hx64
  rw [hqq, hrr]
  have hy0 : ((y : Int) == 0) = false := beq_eq_false_iff_ne.2 (by omega)
  have hlb1 : ((lb : Int) == 0) = false := beq_eq_false_iff_ne.2 (by omega)
  clear hqq hrr
  go_enter Try.func29, Try.ntmps29
  go_wp2_with fail
  refine T1.out.mono ?_
  rintro e w' ⟨rfl, rfl⟩
  go_wp2_with fail
  refine T2.out.mono ?_
  rintro e w' ⟨rfl, rfl⟩
  go_wp2_with fail
  refine W1.out.mono ?_
  rintro e w' ⟨rfl, rfl⟩
  go_wp2_with fail
  refine W2.out.mono ?_
  rintro e w' ⟨rfl, rfl⟩
  go_wp2_with fail
  clear T1 T2 W1 W2
  go_region_with (first
    | (go_at_call 50; refine (ofWord_i _ _ qq (by rw [IntKind.wrap_u64]; omega) hqb).mono ?_; rintro e w1 ⟨r, cr, rfl, R1⟩)
    | (go_at_call 50; refine (ofWord_i _ _ rr (by rfl) hrb).mono ?_; rintro e w2 ⟨s, cs, rfl, R2⟩))
  all_goals go_wp2
  all_goals go_ret3
  all_goals first
    | exact ⟨r, cr, s, cs, rfl, (R1.later R2.below).since (Below.refl _ _).drew, R2.since ((Below.refl w'.heap.size w').drew.trans R1.below), Two.later (w := w') R1.in R2⟩
    | exact ⟨r, cr, s, cs, rfl, R1.since ((Below.refl w'.heap.size w').drew.trans R2.below), (R2.later R1.below).since (Below.refl _ _).drew, Two.sooner (w := w') R2.in R1⟩


theorem div_c (w : World) (p q : Option Addr) (n c m d : Nat) (xs ys : List Nat) (h : Sl w p n c xs) (h' : Sl w q m d ys) (hy : val ys ≠ 0) (hs : n + 1 ≤ 70368744177664) :
    Calls Try.prog 29 #[.slice p n c, .slice q m d] w fun e w' => ∃ r cr s cs, e = .returned (.tuple #[.slice r (digs (val xs / val ys)).length cr, .slice s (digs (val xs % val ys)).length cs, .int .i64 0]) ∧ Res w w' r cr (val xs / val ys) ∧ Res w w' s cs (val xs % val ys) ∧ Two r s := by
  have h0 : (digs (val ys)).length ≠ 0 := fun e => hy ((digs_length_zero _).1 e)
  by_cases h1 : (digs (val xs)).length < (digs (val ys)).length
  · exact div_less w p q n c m d xs ys h h' (by omega) h1
  by_cases h2 : (digs (val xs)).length ≤ 2
  · exact div_word2 w p q n c m d xs ys h h' hy h2 (by omega)
  by_cases h3 : (digs (val ys)).length = 1
  · exact div_one w p q n c m d xs ys h h' (by omega) (by omega) h3
  exact div_long w p q n c m d xs ys h h' hs (by omega) (by omega) (by omega)
end Go.Proofs.Ytejhbjcgacblfaa
