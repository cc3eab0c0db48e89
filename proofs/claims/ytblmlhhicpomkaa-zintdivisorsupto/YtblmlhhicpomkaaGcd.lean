/-
  nat.Gcd: many of Euclid's steps at once, the last ones with words.
-/
import Derived.Test.YtblmlhhicpomkaaSetV
import Derived.Test.YtblmlhhicpomkaaWords
import Derived.Test.YtblmlhhicpomkaaSetK
import Derived.Deep.LoopGhost
namespace Go.Proofs.Ytblmlhhicpomkaa
open Go.RowKit Nt
set_option linter.unusedSimpArgs false
set_option linter.unusedVariables false

/-- What Gcd's loop keeps. -/
def GI (w wr : World) (G A B : Nat) (r r' : Option Addr) (k k' : Nat) : Prop :=
  Below w.heap.size w wr ∧ Sl wr r (digs A).length k (digs A) ∧ Sl wr r' (digs B).length k' (digs B) ∧ B ≤ A ∧ Nat.gcd A B = G ∧ (digs A).length + 1 ≤ 70368744177664

theorem cmpN_lt {a b : Nat} (h : a < b) : cmpN a b = -1 := by simp [cmpN, h]
theorem cmpN_ge {a b : Nat} (h : b ≤ a) : ¬ cmpN a b < 0 := by
  unfold cmpN
  rw [if_neg (by omega)]
  split <;> omega
theorem gcd_rest {A B G : Nat} (h : Nat.gcd A B = G) : Nat.gcd B (A % B) = G := by
  rw [Nat.gcd_comm, ← Nat.gcd_rec, Nat.gcd_comm, h]

set_option maxHeartbeats 4000000 in
theorem gcd_c (w : World) (pa pb : Option Addr) (n c m d : Nat) (xs ys : List Nat) (h : Sl w pa n c xs) (h' : Sl w pb m d ys) (hs : n + 1 ≤ 70368744177664) (hs' : m + 1 ≤ 70368744177664) :
    Calls Try.prog 11 #[.slice pa n c, .slice pb m d] w fun e w' => ∃ r cr, e = .returned (.slice r (digs (Nat.gcd (val xs) (val ys))).length cr) ∧ Res w w' r cr (Nat.gcd (val xs) (val ys)) := by
  obtain ⟨la, hla⟩ : ∃ la, (digs (val xs)).length = la := ⟨_, rfl⟩
  obtain ⟨lb, hlb⟩ : ∃ lb, (digs (val ys)).length = lb := ⟨_, rfl⟩
  have T1 := hid (trim_s w pa n c la xs hla h)
  have T2 := hid (trim_s w pb m d lb ys hlb h')
  have S1 := h.digs
  have S2 := h'.digs
  have l1 := h.dl
  have l2 := h'.dl
  obtain ⟨X, hX⟩ : ∃ X, val xs = X := ⟨_, rfl⟩
  obtain ⟨Y, hY⟩ : ∃ Y, val ys = Y := ⟨_, rfl⟩
  rw [hX] at hla S1 l1
  rw [hY] at hlb S2 l2
  rw [hX, hY]
  rw [hla] at S1 l1
  rw [hlb] at S2 l2
  have CM := cmp_s w pa pb la c lb d (digs X) (digs Y) S1 S2
  rw [val_digs, val_digs] at CM
  have HCM := hid CM
  have HS1 := hid S1
  have HS2 := hid S2
  have HLA := hid hla
  have HLB := hid hlb
  have hm := h.max
  have hm' := h'.max
  have hc1 := S1.cap
  have hc2 := S2.cap
  unfold maxLen at hm hm'
  obtain ⟨G, hG⟩ : ∃ G, Nat.gcd X Y = G := ⟨_, rfl⟩
  rw [hG]
  have HG := hid hG
  clear h h' S1 S2 hla hlb hX hY CM hG
  rcases Nat.lt_or_ge X Y with hlt | hge
  · have hcm := cmpN_lt hlt
    have GS : Hid (∀ nq, ∃ (A B : Nat) (r r' : Option Addr) (k k' : Nat), B ≤ X + Y ∧ Value.slice pb lb d = .slice r (digs A).length k ∧ Value.slice pa la c = .slice r' (digs B).length k' ∧ Hid (GI w (w.drewN nq) G A B r r' k k')) := by
      intro nq
      refine ⟨Y, X, pb, pa, d, c, by omega, by rw [HLB.out], by rw [HLA.out], ?_⟩
      have hb := below_drewN' (Below.refl w.heap.size w) nq
      refine ⟨hb, ?_, ?_, by omega, by rw [Nat.gcd_comm]; exact HG.out, by rw [HLB.out]; omega⟩
      · rw [HLB.out]; exact HS2.out.below hb
      · rw [HLA.out]; exact HS1.out.below hb
    rw [hcm] at HCM
    clear hcm hlt
    go_enter Try.func11, Try.ntmps11
    go_wp2_with fail
    refine T1.out.mono ?_
    rintro e w' ⟨rfl, rfl⟩
    go_wp2_with fail
    refine T2.out.mono ?_
    rintro e w' ⟨rfl, rfl⟩
    go_wp2_with fail
    refine HCM.out.mono ?_
    rintro e w'' ⟨rfl, nq, rfl⟩
    have GT := GS.out nq
    clear GS
    go_wp2_with fail
    go_loopg [0, 1] (X + Y) (fun gk s0 s1 wr => ∃ (A B : Nat) (r r' : Option Addr) (k k' : Nat), B ≤ gk ∧ s0 = .slice r (digs A).length k ∧ s1 = .slice r' (digs B).length k' ∧ Hid (GI w' wr G A B r r' k k'))
    case atStart => exact GT
    case round =>
      obtain ⟨A, B, r, r', k, k', hk, rfl, rfl, HR⟩ := hrel
      obtain ⟨La, hLa⟩ : ∃ L, (digs A).length = L := ⟨_, rfl⟩
      obtain ⟨Lb, hLb⟩ : ∃ L, (digs B).length = L := ⟨_, rfl⟩
      have z0 := digs_length_zero B
      rw [hLb] at z0
      rw [hLa, hLb]
      have HLa := hid hLa
      have HLb := hid hLb
      have hLab : Lb ≤ La := by rw [← hLa, ← hLb]; exact digs_length_mono HR.out.2.2.2.1
      have hLs : La + 1 ≤ 70368744177664 := by rw [← hLa]; exact HR.out.2.2.2.2.2
      have SA : Sl wr r La k (digs A) := by rw [← hLa]; exact HR.out.2.1
      have SB : Sl wr r' Lb k' (digs B) := by rw [← hLb]; exact HR.out.2.2.1
      by_cases h3 : 3 ≤ Lb
      · have LW := hid (lower_c wr r r' k k' A B La Lb hLa hLb SA SB h3 HR.out.2.2.2.1 hLs)
        clear hLa hLb SA SB z0
        go_wp2_with fail
        refine LW.out.mono ?_
        rintro e w1 ⟨A', B', r1, r2, k1, k2, rfl, D⟩
        have HD := hid D
        clear D
        go_wp2_with fail
        go_roundg B'
        case measure => have := HD.out.2.2.2.1; have := HD.out.2.2.2.2.1; omega
        case rel =>
          obtain ⟨e1, e2, e3, e4, e5, e6⟩ := HD.out
          obtain ⟨f1, f2, f3, f4, f5, f6⟩ := HR.out
          refine ⟨A', B', r1, r2, k1, k2, Nat.le_refl _, rfl, rfl, f1.trans (e3.mono f1.size), e1, e2, by omega, by rw [e6]; exact f5, ?_⟩
          have := digs_length_mono e5
          have := HLb.out
          omega
      · by_cases hB : B = 0
        · subst hB
          have hz : Lb = 0 := z0.2 rfl
          subst hz
          have hA : A = G := by have := HR.out.2.2.2.2.1; rwa [Nat.gcd_zero_right] at this
          have NM := hid (norm_n wr r La k A SA.numd 70368744177664 (by omega) (by omega))
          clear hLa hLb SA SB z0
          go_wp2_with fail
          refine NM.out.mono ?_
          rintro e w1 ⟨r1, k1, rfl, R1, _⟩
          have HR1 := hid R1
          clear R1
          go_wp2_with fail
          go_ret
          rw [← hA]
          exact ⟨r1, k1, rfl, HR1.out.since HR.out.1⟩
        · have hz : Lb ≠ 0 := fun e => hB (z0.1 e)
          have hB1 : B < 18446744073709551616 := by
            have := val_lt_two (ok_digs B) (by rw [hLb]; omega)
            rwa [val_digs] at this
          have hmod := Nat.mod_lt A (Nat.pos_of_ne_zero hB)
          have hLr : (digs (A % B)).length ≤ 2 := Nat.le_trans (digs_length_mono (Nat.le_of_lt hmod)) (by rw [hLb]; omega)
          have DVc := div_c wr r r' La k Lb k' (digs A) (digs B) SA SB (by rw [val_digs]; exact hB) hLs
          rw [val_digs, val_digs] at DVc
          have HDV := hid DVc
          have WB := hid (fun (W : World) (hW : Below wr.heap.size wr W) => word_c W r' Lb k' (digs B) (SB.below hW) (by omega))
          rw [val_digs] at WB
          have hgG := gcd_rest HR.out.2.2.2.2.1
          have HGG := hid hgG
          have hGb : Nat.gcd B (A % B) < 18446744073709551616 := Nat.lt_of_le_of_lt (Nat.gcd_le_left _ (Nat.pos_of_ne_zero hB)) hB1
          clear hLa hLb SA SB z0 DVc hgG
          go_wp2_with fail
          refine HDV.out.mono ?_
          rintro e w1 ⟨rq, cq, rs, cs, rfl, R1, R2, _⟩
          have HR2 := hid R2
          clear R1 R2
          obtain ⟨Lr, hLrr⟩ : ∃ L, (digs (A % B)).length = L := ⟨_, rfl⟩
          rw [hLrr] at hLr ⊢
          have WR := word_c w1 rs Lr cs (digs (A % B)) (by rw [← hLrr]; exact HR2.out.sl) hLr
          rw [val_digs] at WR
          have HWR := hid WR
          clear hLrr WR
          have hMb : A % B < 18446744073709551616 := by omega
          go_wp2_with fail
          refine (WB.out w1 HR2.out.below).mono ?_
          rintro e w2 ⟨rfl, rfl⟩
          go_wp2_with fail
          refine HWR.out.mono ?_
          rintro e w3 ⟨rfl, rfl⟩
          go_wp2_with fail
          refine (gcdWords_c _ B (A % B) hB1 hMb).mono ?_
          rintro e w4 ⟨rfl, nq2, rfl⟩
          go_wp2_with fail
          refine (ofWord_r _ (Nat.gcd B (A % B)) hGb).mono ?_
          rintro e w5 ⟨r5, k5, rfl, R5⟩
          have HR5 := hid R5
          clear R5
          go_wp2_with fail
          go_ret
          rw [HGG.out] at HR5 ⊢
          exact ⟨r5, k5, rfl, HR5.out.since (HR.out.1.trans ((below_drewN' HR2.out.below nq2).mono HR.out.1.size))⟩
  · have hcm := cmpN_ge hge
    obtain ⟨cm, hcmv⟩ : ∃ cm, cmpN X Y = cm := ⟨_, rfl⟩
    have GS : Hid (∀ nq, ∃ (A B : Nat) (r r' : Option Addr) (k k' : Nat), B ≤ X + Y ∧ Value.slice pa la c = .slice r (digs A).length k ∧ Value.slice pb lb d = .slice r' (digs B).length k' ∧ Hid (GI w (w.drewN nq) G A B r r' k k')) := by
      intro nq
      refine ⟨X, Y, pa, pb, c, d, by omega, by rw [HLA.out], by rw [HLB.out], ?_⟩
      have hb := below_drewN' (Below.refl w.heap.size w) nq
      refine ⟨hb, ?_, ?_, by omega, HG.out, by rw [HLA.out]; omega⟩
      · rw [HLA.out]; exact HS1.out.below hb
      · rw [HLB.out]; exact HS2.out.below hb
    rw [hcmv] at HCM hcm
    clear hcmv hge
    go_enter Try.func11, Try.ntmps11
    go_wp2_with fail
    refine T1.out.mono ?_
    rintro e w' ⟨rfl, rfl⟩
    go_wp2_with fail
    refine T2.out.mono ?_
    rintro e w' ⟨rfl, rfl⟩
    go_wp2_with fail
    refine HCM.out.mono ?_
    rintro e w'' ⟨rfl, nq, rfl⟩
    have GT := GS.out nq
    clear GS
    go_wp2_with fail
    go_loopg [0, 1] (X + Y) (fun gk s0 s1 wr => ∃ (A B : Nat) (r r' : Option Addr) (k k' : Nat), B ≤ gk ∧ s0 = .slice r (digs A).length k ∧ s1 = .slice r' (digs B).length k' ∧ Hid (GI w' wr G A B r r' k k'))
    case atStart => exact GT
    case round =>
      obtain ⟨A, B, r, r', k, k', hk, rfl, rfl, HR⟩ := hrel
      obtain ⟨La, hLa⟩ : ∃ L, (digs A).length = L := ⟨_, rfl⟩
      obtain ⟨Lb, hLb⟩ : ∃ L, (digs B).length = L := ⟨_, rfl⟩
      have z0 := digs_length_zero B
      rw [hLb] at z0
      rw [hLa, hLb]
      have HLa := hid hLa
      have HLb := hid hLb
      have hLab : Lb ≤ La := by rw [← hLa, ← hLb]; exact digs_length_mono HR.out.2.2.2.1
      have hLs : La + 1 ≤ 70368744177664 := by rw [← hLa]; exact HR.out.2.2.2.2.2
      have SA : Sl wr r La k (digs A) := by rw [← hLa]; exact HR.out.2.1
      have SB : Sl wr r' Lb k' (digs B) := by rw [← hLb]; exact HR.out.2.2.1
      by_cases h3 : 3 ≤ Lb
      · have LW := hid (lower_c wr r r' k k' A B La Lb hLa hLb SA SB h3 HR.out.2.2.2.1 hLs)
        clear hLa hLb SA SB z0
        go_wp2_with fail
        refine LW.out.mono ?_
        rintro e w1 ⟨A', B', r1, r2, k1, k2, rfl, D⟩
        have HD := hid D
        clear D
        go_wp2_with fail
        go_roundg B'
        case measure => have := HD.out.2.2.2.1; have := HD.out.2.2.2.2.1; omega
        case rel =>
          obtain ⟨e1, e2, e3, e4, e5, e6⟩ := HD.out
          obtain ⟨f1, f2, f3, f4, f5, f6⟩ := HR.out
          refine ⟨A', B', r1, r2, k1, k2, Nat.le_refl _, rfl, rfl, f1.trans (e3.mono f1.size), e1, e2, by omega, by rw [e6]; exact f5, ?_⟩
          have := digs_length_mono e5
          have := HLb.out
          omega
      · by_cases hB : B = 0
        · subst hB
          have hz : Lb = 0 := z0.2 rfl
          subst hz
          have hA : A = G := by have := HR.out.2.2.2.2.1; rwa [Nat.gcd_zero_right] at this
          have NM := hid (norm_n wr r La k A SA.numd 70368744177664 (by omega) (by omega))
          clear hLa hLb SA SB z0
          go_wp2_with fail
          refine NM.out.mono ?_
          rintro e w1 ⟨r1, k1, rfl, R1, _⟩
          have HR1 := hid R1
          clear R1
          go_wp2_with fail
          go_ret
          rw [← hA]
          exact ⟨r1, k1, rfl, HR1.out.since HR.out.1⟩
        · have hz : Lb ≠ 0 := fun e => hB (z0.1 e)
          have hB1 : B < 18446744073709551616 := by
            have := val_lt_two (ok_digs B) (by rw [hLb]; omega)
            rwa [val_digs] at this
          have hmod := Nat.mod_lt A (Nat.pos_of_ne_zero hB)
          have hLr : (digs (A % B)).length ≤ 2 := Nat.le_trans (digs_length_mono (Nat.le_of_lt hmod)) (by rw [hLb]; omega)
          have DVc := div_c wr r r' La k Lb k' (digs A) (digs B) SA SB (by rw [val_digs]; exact hB) hLs
          rw [val_digs, val_digs] at DVc
          have HDV := hid DVc
          have WB := hid (fun (W : World) (hW : Below wr.heap.size wr W) => word_c W r' Lb k' (digs B) (SB.below hW) (by omega))
          rw [val_digs] at WB
          have hgG := gcd_rest HR.out.2.2.2.2.1
          have HGG := hid hgG
          have hGb : Nat.gcd B (A % B) < 18446744073709551616 := Nat.lt_of_le_of_lt (Nat.gcd_le_left _ (Nat.pos_of_ne_zero hB)) hB1
          clear hLa hLb SA SB z0 DVc hgG
          go_wp2_with fail
          refine HDV.out.mono ?_
          rintro e w1 ⟨rq, cq, rs, cs, rfl, R1, R2, _⟩
          have HR2 := hid R2
          clear R1 R2
          obtain ⟨Lr, hLrr⟩ : ∃ L, (digs (A % B)).length = L := ⟨_, rfl⟩
          rw [hLrr] at hLr ⊢
          have WR := word_c w1 rs Lr cs (digs (A % B)) (by rw [← hLrr]; exact HR2.out.sl) hLr
          rw [val_digs] at WR
          have HWR := hid WR
          clear hLrr WR
          have hMb : A % B < 18446744073709551616 := by omega
          go_wp2_with fail
          refine (WB.out w1 HR2.out.below).mono ?_
          rintro e w2 ⟨rfl, rfl⟩
          go_wp2_with fail
          refine HWR.out.mono ?_
          rintro e w3 ⟨rfl, rfl⟩
          go_wp2_with fail
          refine (gcdWords_c _ B (A % B) hB1 hMb).mono ?_
          rintro e w4 ⟨rfl, nq2, rfl⟩
          go_wp2_with fail
          refine (ofWord_r _ (Nat.gcd B (A % B)) hGb).mono ?_
          rintro e w5 ⟨r5, k5, rfl, R5⟩
          have HR5 := hid R5
          clear R5
          go_wp2_with fail
          go_ret
          rw [HGG.out] at HR5 ⊢
          exact ⟨r5, k5, rfl, HR5.out.since (HR.out.1.trans ((below_drewN' HR2.out.below nq2).mono HR.out.1.size))⟩
end Go.Proofs.Ytblmlhhicpomkaa
