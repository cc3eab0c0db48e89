import Derived.Test.YtblmlhhicpomkaaLook
import Derived.Deep.RegionHeld3
import Derived.Test.YtblmlhhicpomkaaSetB
/-
  euclid.Steps.Rests: the pair behind the steps.
-/
namespace Go.Proofs.Ytblmlhhicpomkaa
open Go.RowKit Nt
set_option linter.unusedSimpArgs false
set_option linter.unusedVariables false

theorem cell_keep {w w' : World} {a : Addr} {v : Value} (h : w.cell? a = some v) (hb : Below w.heap.size w w') : w'.cell? a = some v :=
  (World.cell?_of_block (w := w) (hb.block a.block (cell_some_block h))).trans h
theorem keepG {w w' w'' : World} {g : Nat} {v0 v1 v2 v3 : Value} (h : w'.cell? ⟨g, 0, none⟩ = some v0 ∧ w'.cell? ⟨g, 1, none⟩ = some v1 ∧ w'.cell? ⟨g, 2, none⟩ = some v2 ∧ w'.cell? ⟨g, 3, none⟩ = some v3 ∧ Hid (Below w.heap.size w w')) (hb : Below w'.heap.size w' w'') :
    w''.cell? ⟨g, 0, none⟩ = some v0 ∧ w''.cell? ⟨g, 1, none⟩ = some v1 ∧ w''.cell? ⟨g, 2, none⟩ = some v2 ∧ w''.cell? ⟨g, 3, none⟩ = some v3 ∧ Hid (Below w.heap.size w w'') :=
  ⟨cell_keep h.1 hb, cell_keep h.2.1 hb, cell_keep h.2.2.1 hb, cell_keep h.2.2.2.1 hb, h.2.2.2.2.out.trans (hb.mono h.2.2.2.2.out.size)⟩
theorem belowG {w w' : World} {g : Nat} {v0 v1 v2 v3 : Value} (h : w'.cell? ⟨g, 0, none⟩ = some v0 ∧ w'.cell? ⟨g, 1, none⟩ = some v1 ∧ w'.cell? ⟨g, 2, none⟩ = some v2 ∧ w'.cell? ⟨g, 3, none⟩ = some v3 ∧ Hid (Below w.heap.size w w')) : Below w.heap.size w w' := h.2.2.2.2.out

set_option maxHeartbeats 2000000 in
theorem rests_g (w : World) (pa pb : Option Addr) (n c m d : Nat) (xs ys : List Nat) (U0 V0 U1 V1 : Nat) (odd : Bool) (h : Sl w pa n c xs) (h' : Sl w pb m d ys) (hn' : n ≤ 70368744177664) (hmn : m ≤ n)
    (hU0 : U0 < 4294967296) (hV0 : V0 < 4294967296) (hU1 : U1 < 4294967296) (hV1 : V1 < 4294967296) (hg : Nt.Good (val xs) (val ys) U0 V0 U1 V1 odd) :
    Calls Try.prog 51 #[.agg #[.int .u64 U0, .int .u64 V0, .int .u64 U1, .int .u64 V1, .bool odd], .slice pa n c, .slice pb m d] w fun e w' => ∃ (a' b' : Nat) (r r' : Option Addr) (k k' : Nat), e = .returned (.tuple #[.slice r (digs a').length k, .slice r' (digs b').length k']) ∧ Sl w' r (digs a').length k (digs a') ∧ Sl w' r' (digs b').length k' (digs b') ∧ Below w.heap.size w w' ∧ b' < a' ∧ a' ≤ val ys ∧ Nat.gcd a' b' = Nat.gcd (val xs) (val ys) ∧ (odd = true ∧ V0 * val ys = a' + U0 * val xs ∧ U1 * val xs = b' + V1 * val ys ∨ odd = false ∧ U0 * val xs = a' + V0 * val ys ∧ V1 * val ys = b' + U1 * val xs) ∧ (odd = true ∧ U1 * V0 = 1 + U0 * V1 ∨ odd = false ∧ U0 * V1 = 1 + U1 * V0) ∧ (∀ b o, r = some ⟨b, o, none⟩ → w.heap.size ≤ b) ∧ (∀ b o, r' = some ⟨b, o, none⟩ → w.heap.size ≤ b) := by
  obtain ⟨a', b', hcase, hba, hab, hgcd, hdt⟩ := hg
  have hL : max n m = n := by omega
  have hL' : max m n = n := by omega
  have hlt : val ys < 4294967296 ^ n := by
    have := val_lt h'.ok
    rw [h'.len] at this
    exact Nat.lt_of_lt_of_le this (Nat.pow_le_pow_right (by omega) hmn)
  have HX := hid h
  have HY := hid h'
  have FIN := hid (And.intro hba (And.intro hab (And.intro hgcd (And.intro hcase hdt))))
  clear hdt
  rcases hcase with ⟨rfl, e1, e2⟩ | ⟨rfl, e1, e2⟩
  · have D1 := hid (fun (W : World) (hB : Below w.heap.size w W) => differ_c W pb pa m d n c ys xs V0 U0 n (h'.below hB) (h.below hB) hV0 hU0 hL' hn' (by rw [Nat.mul_comm (val ys), Nat.mul_comm (val xs), e1]; omega) (by rw [Nat.mul_comm (val ys), Nat.mul_comm (val xs), e1]; omega))
    have D2 := hid (fun (W : World) (hB : Below w.heap.size w W) => differ_c W pa pb n c m d xs ys U1 V1 n (h.below hB) (h'.below hB) hU1 hV1 hL hn' (by rw [Nat.mul_comm (val ys), Nat.mul_comm (val xs), e2]; omega) (by rw [Nat.mul_comm (val ys), Nat.mul_comm (val xs), e2]; omega))
    have E1 : val ys * V0 - val xs * U0 = a' := by rw [Nat.mul_comm (val ys), Nat.mul_comm (val xs), e1]; omega
    have E2 : val xs * U1 - val ys * V1 = b' := by rw [Nat.mul_comm (val ys), Nat.mul_comm (val xs), e2]; omega
    rw [E1] at D1
    rw [E2] at D2
    clear e1 e2 E1 E2 hlt hba hab hgcd h h' hL hL'
    go_enter Try.func51, Try.ntmps51
    go_wp2_with fail
    obtain ⟨W0, hW0⟩ : ∃ W, W = w.alloc (.cells #[.int .u64 U0, .int .u64 V0, .int .u64 U1, .int .u64 V1, .bool true] 62) := ⟨_, rfl⟩
    have HB0 := hid (show Below w.heap.size w W0 from by rw [hW0]; exact (Below.refl _ _).alloc (Nat.le_refl _) _)
    have HG0 := hid (show W0.heap[w.heap.size]? = some (.cells #[.int .u64 U0, .int .u64 V0, .int .u64 U1, .int .u64 V1, .bool true] 62) from by rw [hW0]; exact heap_alloc_last _ _)
    rw [← hW0]
    obtain ⟨g, hg⟩ : ∃ g, g = w.heap.size := ⟨_, rfl⟩
    rw [← hg] at HG0 ⊢
    have HGE := hid hg
    clear hg hW0
    have c0 : W0.cell? ⟨g, 0, none⟩ = some (.int .u64 U0) := by simp [World.cell?, HG0.out]
    have c1 : W0.cell? ⟨g, 1, none⟩ = some (.int .u64 V0) := by simp [World.cell?, HG0.out]
    have c2 : W0.cell? ⟨g, 2, none⟩ = some (.int .u64 U1) := by simp [World.cell?, HG0.out]
    have c3 : W0.cell? ⟨g, 3, none⟩ = some (.int .u64 V1) := by simp [World.cell?, HG0.out]
    go_region_held3 (fun w' => w'.cell? ⟨g, 0, none⟩ = some (.int .u64 U0) ∧ w'.cell? ⟨g, 1, none⟩ = some (.int .u64 V0) ∧ w'.cell? ⟨g, 2, none⟩ = some (.int .u64 U1) ∧ w'.cell? ⟨g, 3, none⟩ = some (.int .u64 V1) ∧ Hid (Below w.heap.size w w'))
      (first | (with_reducible exact keepG (w := w) (g := g) (v0 := .int .u64 U0) (v1 := .int .u64 V0) (v2 := .int .u64 U1) (v3 := .int .u64 V1) (by assumption) hBz) | (exact ⟨c0, c1, c2, c3, HB0.out.drew⟩) | fail)
      (first | (go_at_call_of 70 (Value.slice pb m d); refine (D1.out _ (belowG (w := w) (g := g) (v0 := .int .u64 U0) (v1 := .int .u64 V0) (v2 := .int .u64 U1) (v3 := .int .u64 V1) (by with_reducible assumption))).mono ?_; rintro e wu ⟨r1, k1, rfl, R1⟩; have hBz := R1.below; have H1 := hid R1.sl; have F1 := hid (fun b o e => Nat.le_trans (belowG (w := w) (g := g) (v0 := .int .u64 U0) (v1 := .int .u64 V0) (v2 := .int .u64 U1) (v3 := .int .u64 V1) (by with_reducible assumption)).size (R1.own b o e).2.1); clear D1)
             | (go_at_call_of 70 (Value.slice pa n c); refine (D2.out _ (belowG (w := w) (g := g) (v0 := .int .u64 U0) (v1 := .int .u64 V0) (v2 := .int .u64 U1) (v3 := .int .u64 V1) (by with_reducible assumption))).mono ?_; rintro e wv ⟨r2, k2, rfl, R2⟩; have hBz := R2.below; have H2 := hid R2.sl; have F2 := hid (fun b o e => Nat.le_trans (belowG (w := w) (g := g) (v0 := .int .u64 U0) (v1 := .int .u64 V0) (v2 := .int .u64 U1) (v3 := .int .u64 V1) (by with_reducible assumption)).size (R2.own b o e).2.1); have H1' := hid (H1.out.below hBz); have HS := hid (keepG (w := w) (g := g) (v0 := .int .u64 U0) (v1 := .int .u64 V0) (v2 := .int .u64 U1) (v3 := .int .u64 V1) (by with_reducible assumption) hBz)))
    all_goals go_wp2
    all_goals go_ret2
    all_goals exact ⟨a', b', r1, r2, k1, k2, rfl, H1'.out, H2.out, HS.out.2.2.2.2.out, FIN.out.1, FIN.out.2.1, FIN.out.2.2.1, FIN.out.2.2.2.1, FIN.out.2.2.2.2, F1.out, F2.out⟩
  · have D1 := hid (fun (W : World) (hB : Below w.heap.size w W) => differ_c W pa pb n c m d xs ys U0 V0 n (h.below hB) (h'.below hB) hU0 hV0 hL hn' (by rw [Nat.mul_comm (val ys), Nat.mul_comm (val xs), e1]; omega) (by rw [Nat.mul_comm (val ys), Nat.mul_comm (val xs), e1]; omega))
    have D2 := hid (fun (W : World) (hB : Below w.heap.size w W) => differ_c W pb pa m d n c ys xs V1 U1 n (h'.below hB) (h.below hB) hV1 hU1 hL' hn' (by rw [Nat.mul_comm (val ys), Nat.mul_comm (val xs), e2]; omega) (by rw [Nat.mul_comm (val ys), Nat.mul_comm (val xs), e2]; omega))
    have E1 : val xs * U0 - val ys * V0 = a' := by rw [Nat.mul_comm (val ys), Nat.mul_comm (val xs), e1]; omega
    have E2 : val ys * V1 - val xs * U1 = b' := by rw [Nat.mul_comm (val ys), Nat.mul_comm (val xs), e2]; omega
    rw [E1] at D1
    rw [E2] at D2
    clear e1 e2 E1 E2 hlt hba hab hgcd h h' hL hL'
    go_enter Try.func51, Try.ntmps51
    go_wp2_with fail
    obtain ⟨W0, hW0⟩ : ∃ W, W = w.alloc (.cells #[.int .u64 U0, .int .u64 V0, .int .u64 U1, .int .u64 V1, .bool false] 62) := ⟨_, rfl⟩
    have HB0 := hid (show Below w.heap.size w W0 from by rw [hW0]; exact (Below.refl _ _).alloc (Nat.le_refl _) _)
    have HG0 := hid (show W0.heap[w.heap.size]? = some (.cells #[.int .u64 U0, .int .u64 V0, .int .u64 U1, .int .u64 V1, .bool false] 62) from by rw [hW0]; exact heap_alloc_last _ _)
    rw [← hW0]
    obtain ⟨g, hg⟩ : ∃ g, g = w.heap.size := ⟨_, rfl⟩
    rw [← hg] at HG0 ⊢
    have HGE := hid hg
    clear hg hW0
    have c0 : W0.cell? ⟨g, 0, none⟩ = some (.int .u64 U0) := by simp [World.cell?, HG0.out]
    have c1 : W0.cell? ⟨g, 1, none⟩ = some (.int .u64 V0) := by simp [World.cell?, HG0.out]
    have c2 : W0.cell? ⟨g, 2, none⟩ = some (.int .u64 U1) := by simp [World.cell?, HG0.out]
    have c3 : W0.cell? ⟨g, 3, none⟩ = some (.int .u64 V1) := by simp [World.cell?, HG0.out]
    go_region_held3 (fun w' => w'.cell? ⟨g, 0, none⟩ = some (.int .u64 U0) ∧ w'.cell? ⟨g, 1, none⟩ = some (.int .u64 V0) ∧ w'.cell? ⟨g, 2, none⟩ = some (.int .u64 U1) ∧ w'.cell? ⟨g, 3, none⟩ = some (.int .u64 V1) ∧ Hid (Below w.heap.size w w'))
      (first | (with_reducible exact keepG (w := w) (g := g) (v0 := .int .u64 U0) (v1 := .int .u64 V0) (v2 := .int .u64 U1) (v3 := .int .u64 V1) (by assumption) hBz) | (exact ⟨c0, c1, c2, c3, HB0.out.drew⟩) | fail)
      (first | (go_at_call_of 70 (Value.slice pa n c); refine (D1.out _ (belowG (w := w) (g := g) (v0 := .int .u64 U0) (v1 := .int .u64 V0) (v2 := .int .u64 U1) (v3 := .int .u64 V1) (by with_reducible assumption))).mono ?_; rintro e wu ⟨r1, k1, rfl, R1⟩; have hBz := R1.below; have H1 := hid R1.sl; have F1 := hid (fun b o e => Nat.le_trans (belowG (w := w) (g := g) (v0 := .int .u64 U0) (v1 := .int .u64 V0) (v2 := .int .u64 U1) (v3 := .int .u64 V1) (by with_reducible assumption)).size (R1.own b o e).2.1); clear D1)
             | (go_at_call_of 70 (Value.slice pb m d); refine (D2.out _ (belowG (w := w) (g := g) (v0 := .int .u64 U0) (v1 := .int .u64 V0) (v2 := .int .u64 U1) (v3 := .int .u64 V1) (by with_reducible assumption))).mono ?_; rintro e wv ⟨r2, k2, rfl, R2⟩; have hBz := R2.below; have H2 := hid R2.sl; have F2 := hid (fun b o e => Nat.le_trans (belowG (w := w) (g := g) (v0 := .int .u64 U0) (v1 := .int .u64 V0) (v2 := .int .u64 U1) (v3 := .int .u64 V1) (by with_reducible assumption)).size (R2.own b o e).2.1); have H1' := hid (H1.out.below hBz); have HS := hid (keepG (w := w) (g := g) (v0 := .int .u64 U0) (v1 := .int .u64 V0) (v2 := .int .u64 U1) (v3 := .int .u64 V1) (by with_reducible assumption) hBz)))
    all_goals go_wp2
    all_goals go_ret2
    all_goals exact ⟨a', b', r1, r2, k1, k2, rfl, H1'.out, H2.out, HS.out.2.2.2.2.out, FIN.out.1, FIN.out.2.1, FIN.out.2.2.1, FIN.out.2.2.2.1, FIN.out.2.2.2.2, F1.out, F2.out⟩

theorem rests_c (w : World) (pa pb : Option Addr) (n c m d : Nat) (xs ys : List Nat) (U0 V0 U1 V1 : Nat) (odd : Bool) (h : Sl w pa n c xs) (h' : Sl w pb m d ys) (hn' : n ≤ 70368744177664) (hmn : m ≤ n)
    (hU0 : U0 < 4294967296) (hV0 : V0 < 4294967296) (hU1 : U1 < 4294967296) (hV1 : V1 < 4294967296) (hg : Nt.Good (val xs) (val ys) U0 V0 U1 V1 odd) :
    Calls Try.prog 51 #[.agg #[.int .u64 U0, .int .u64 V0, .int .u64 U1, .int .u64 V1, .bool odd], .slice pa n c, .slice pb m d] w fun e w' => ∃ (a' b' : Nat) (r r' : Option Addr) (k k' : Nat), e = .returned (.tuple #[.slice r (digs a').length k, .slice r' (digs b').length k']) ∧ Sl w' r (digs a').length k (digs a') ∧ Sl w' r' (digs b').length k' (digs b') ∧ Below w.heap.size w w' ∧ b' < a' ∧ a' ≤ val ys ∧ Nat.gcd a' b' = Nat.gcd (val xs) (val ys) := by
  refine (rests_g w pa pb n c m d xs ys U0 V0 U1 V1 odd h h' hn' hmn hU0 hV0 hU1 hV1 hg).mono ?_
  rintro e w' ⟨a', b', r, r', k, k', h1, h2, h3, h4, h5, h6, h7, -⟩
  exact ⟨a', b', r, r', k, k', h1, h2, h3, h4, h5, h6, h7⟩
end Go.Proofs.Ytblmlhhicpomkaa

/-
  nat.lower: on in the row of rests, by many places or by one.
-/
namespace Go.Proofs.Ytblmlhhicpomkaa
open Go.RowKit Nt
set_option linter.unusedSimpArgs false
set_option linter.unusedVariables false

/-- Two numbers further down the row. -/
def Dn (w w' : World) (A B : Nat) (r r' : Option Addr) (k k' A' B' : Nat) : Prop :=
  Sl w' r (digs A').length k (digs A') ∧ Sl w' r' (digs B').length k' (digs B') ∧ Below w.heap.size w w' ∧ B' < A' ∧ A' ≤ B ∧ Nat.gcd A' B' = Nat.gcd A B

set_option maxHeartbeats 2000000 in
theorem lower_c (w : World) (pa pb : Option Addr) (c d A B n m : Nat) (en : (digs A).length = n) (em : (digs B).length = m) (h : Sl w pa n c (digs A)) (h' : Sl w pb m d (digs B)) (hm : 3 ≤ m) (hBA : B ≤ A) (hs : n + 1 ≤ 70368744177664) :
    Calls Try.prog 32 #[.slice pa n c, .slice pb m d] w fun e w' => ∃ (A' B' : Nat) (r r' : Option Addr) (k k' : Nat), e = .returned (.tuple #[.slice r (digs A').length k, .slice r' (digs B').length k']) ∧ Dn w w' A B r r' k k' A' B' := by
  have hmn : m ≤ n := by rw [← en, ← em]; exact digs_length_mono hBA
  have hB0 : B ≠ 0 := by
    intro e
    rw [e, digs_zero] at em
    simp at em
    omega
  have htop : (digs A).getD (n - 1) 0 ≠ 0 := by
    rw [← en]
    exact (top_digs A).resolve_left (by intro e; rw [e] at en; simp at en; omega)
  have LK := hid (fun (W : World) (hW : Below w.heap.size w W) => look_c W pa pb n c m d (digs A) (digs B) (h.below hW) (h'.below hW) (by omega) (by omega) htop hmn (by rw [val_digs, val_digs]; exact hBA))
  have RS := hid (fun (W : World) (hW : Below w.heap.size w W) U0 V0 U1 V1 odd a b c' d' hg => rests_c W pa pb n c m d (digs A) (digs B) U0 V0 U1 V1 odd (h.below hW) (h'.below hW) (by omega) hmn a b c' d' hg)
  have DV := hid (fun (W : World) (hW : Below w.heap.size w W) => div_c W pa pb n c m d (digs A) (digs B) (h.below hW) (h'.below hW) (by rw [val_digs]; exact hB0) hs)
  rw [val_digs, val_digs] at LK RS DV
  have HX := hid h
  have HY := hid h'
  have HEN := hid en
  have HEM := hid em
  have HB0 := hid hB0
  clear h h' htop en em hB0
  go_enter Try.func32, Try.ntmps32
  go_wp2_with fail
  refine (LK.out _ (Below.refl _ _)).mono ?_
  rintro e w1 ⟨U0, V0, U1, V1, odd, rfl, ⟨s1, s2, s3, s4⟩, hgood, hb⟩
  have HB := hid hb
  have HGOOD := hid hgood
  clear hb hgood LK
  by_cases hV : V0 = 0
  · subst hV
    go_wp2_with fail
    refine (DV.out _ (HB.out.alloc HB.out.size _)).mono ?_
    rintro e w2 ⟨r, cr, s, cs, rfl, R1, R2, T2⟩
    have HR2 := hid R2
    clear R1 R2 T2
    go_wp2_with fail
    go_ret2
    have hB1 := (HB.out.alloc HB.out.size (.cells #[.int .u64 U0, .int .u64 0, .int .u64 U1, .int .u64 V1, .bool odd] 62)).trans (HR2.out.below.mono (Nat.le_trans HB.out.size (by simp)))
    refine ⟨B, A % B, pb, s, d, cs, by rw [HEM.out]; rfl, ?_, HR2.out.sl, hB1, Nat.mod_lt _ (Nat.pos_of_ne_zero HB0.out), Nat.le_refl _, ?_⟩
    · rw [HEM.out]; exact HY.out.below hB1
    · rw [Nat.gcd_comm, ← Nat.gcd_rec, Nat.gcd_comm]
  · have hbo : (!decide (V0 = 0)) = true := by simp [hV]
    have HV := hid hV
    clear hV
    rw [hbo]
    go_wp2_with fail
    refine (RS.out _ (HB.out.alloc HB.out.size _) U0 V0 U1 V1 odd s1 s2 s3 s4 (HGOOD.out HV.out)).mono ?_
    rintro e w2 ⟨a', b', r, r', k, k', rfl, k1, k2, k3, k4, k5, k6⟩
    have K1 := hid k1
    have K2 := hid k2
    have K3 := hid k3
    have K6 := hid k6
    clear k1 k2 k3 k6
    go_wp2_with fail
    go_ret2
    have hB1 := (HB.out.alloc HB.out.size (.cells #[.int .u64 U0, .int .u64 V0, .int .u64 U1, .int .u64 V1, .bool odd] 62)).trans (K3.out.mono (Nat.le_trans HB.out.size (by simp)))
    exact ⟨a', b', r, r', k, k', rfl, K1.out, K2.out, hB1, k4, k5, K6.out⟩
end Go.Proofs.Ytblmlhhicpomkaa
