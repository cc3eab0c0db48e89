import Derived.Test.YtblmlhhicpomkaaDoorLook
import Derived.Deep.RegionHeld3
import Derived.Test.YtblmlhhicpomkaaDoorSetB
/-
  euclid.Steps.Rests: the pair behind the steps.
-/
namespace Go.Proofs.YtblmlhhicpomkaaDoor
open Go.RowKit Nt
set_option linter.unusedSimpArgs false
set_option linter.unusedVariables false

theorem cell_keep {w w' : World} {a : Addr} {v : Value} (h : w.cell? a = some v) (hb : Below w.heap.size w w') : w'.cell? a = some v :=
  (World.cell?_of_block (w := w) (hb.block a.block (cell_some_block h))).trans h
theorem keepG {w w' w'' : World} {g : Nat} {v0 v1 v2 v3 : Value} (h : w'.cell? ⟨g, 0, none⟩ = some v0 ∧ w'.cell? ⟨g, 1, none⟩ = some v1 ∧ w'.cell? ⟨g, 2, none⟩ = some v2 ∧ w'.cell? ⟨g, 3, none⟩ = some v3 ∧ Hid (Below w.heap.size w w')) (hb : Below w'.heap.size w' w'') :
    w''.cell? ⟨g, 0, none⟩ = some v0 ∧ w''.cell? ⟨g, 1, none⟩ = some v1 ∧ w''.cell? ⟨g, 2, none⟩ = some v2 ∧ w''.cell? ⟨g, 3, none⟩ = some v3 ∧ Hid (Below w.heap.size w w'') :=
  ⟨cell_keep h.1 hb, cell_keep h.2.1 hb, cell_keep h.2.2.1 hb, cell_keep h.2.2.2.1 hb, h.2.2.2.2.out.trans (hb.mono h.2.2.2.2.out.size)⟩
theorem belowG {w w' : World} {g : Nat} {v0 v1 v2 v3 : Value} (h : w'.cell? ⟨g, 0, none⟩ = some v0 ∧ w'.cell? ⟨g, 1, none⟩ = some v1 ∧ w'.cell? ⟨g, 2, none⟩ = some v2 ∧ w'.cell? ⟨g, 3, none⟩ = some v3 ∧ Hid (Below w.heap.size w w')) : Below w.heap.size w w' := h.2.2.2.2.out

set_option maxHeartbeats 2000000 in
theorem rests_g (w : World) (pa pb : Option Addr) (n c m d : Nat) (xs ys : List Nat) (U0 V0 U1 V1 : Nat) (odd : Bool) (h : Sl w pa n c xs) (h' : Sl w pb m d ys) (hn' : n ≤ 70368744177664) (hmn : m ≤ n)
    (hU0 : U0 < 4294967296) (hV0 : V0 < 4294967296) (hU1 : U1 < 4294967296) (hV1 : V1 < 4294967296) (hg : Nt.Good (val xs) (val ys) U0 V0 U1 V1 odd) :
    Calls Tryd.prog 50 #[.agg #[.int .u64 U0, .int .u64 V0, .int .u64 U1, .int .u64 V1, .bool odd], .slice pa n c, .slice pb m d] w fun e w' => ∃ (a' b' : Nat) (r r' : Option Addr) (k k' : Nat), e = .returned (.tuple #[.slice r (digs a').length k, .slice r' (digs b').length k']) ∧ Sl w' r (digs a').length k (digs a') ∧ Sl w' r' (digs b').length k' (digs b') ∧ Below w.heap.size w w' ∧ b' < a' ∧ a' ≤ val ys ∧ Nat.gcd a' b' = Nat.gcd (val xs) (val ys) ∧ (odd = true ∧ V0 * val ys = a' + U0 * val xs ∧ U1 * val xs = b' + V1 * val ys ∨ odd = false ∧ U0 * val xs = a' + V0 * val ys ∧ V1 * val ys = b' + U1 * val xs) ∧ (odd = true ∧ U1 * V0 = 1 + U0 * V1 ∨ odd = false ∧ U0 * V1 = 1 + U1 * V0) ∧ (∀ b o, r = some ⟨b, o, none⟩ → w.heap.size ≤ b) ∧ (∀ b o, r' = some ⟨b, o, none⟩ → w.heap.size ≤ b) := by
  obtain ⟨a', b', hcase, hba, hab, hgcd, hdt⟩ := hg
  have hL : max n m = n := by omega
  have hL' : max m n = n := by omega
  have hlt : val ys < 4294967296 ^ n := by
    have := val_lt h'.ok
    rw [h'.len] at this
    exact Nat.lt_of_lt_of_le this (Nat.pow_le_pow_right (by omega) hmn)
  have HX := hid h
  have HY := hid h'
  have FIN := hid (And.intro hba (And.intro hab (And.intro hgcd (And.intro hcase hdt))))
  clear hdt
  rcases hcase with ⟨rfl, e1, e2⟩ | ⟨rfl, e1, e2⟩
  · have D1 := hid (fun (W : World) (hB : Below w.heap.size w W) => differ_c W pb pa m d n c ys xs V0 U0 n (h'.below hB) (h.below hB) hV0 hU0 hL' hn' (by rw [Nat.mul_comm (val ys), Nat.mul_comm (val xs), e1]; omega) (by rw [Nat.mul_comm (val ys), Nat.mul_comm (val xs), e1]; omega))
    have D2 := hid (fun (W : World) (hB : Below w.heap.size w W) => differ_c W pa pb n c m d xs ys U1 V1 n (h.below hB) (h'.below hB) hU1 hV1 hL hn' (by rw [Nat.mul_comm (val ys), Nat.mul_comm (val xs), e2]; omega) (by rw [Nat.mul_comm (val ys), Nat.mul_comm (val xs), e2]; omega))
    have E1 : val ys * V0 - val xs * U0 = a' := by rw [Nat.mul_comm (val ys), Nat.mul_comm (val xs), e1]; omega
    have E2 : val xs * U1 - val ys * V1 = b' := by rw [Nat.mul_comm (val ys), Nat.mul_comm (val xs), e2]; omega
    rw [E1] at D1
    rw [E2] at D2
    clear e1 e2 E1 E2 hlt hba hab hgcd h h' hL hL'
    go_enter Tryd.func50, Tryd.ntmps50
    go_wp2_with fail
    obtain ⟨W0, hW0⟩ : ∃ W, W = w.alloc (.cells #[.int .u64 U0, .int .u64 V0, .int .u64 U1, .int .u64 V1, .bool true] 75) := ⟨_, rfl⟩
    have HB0 := hid (show Below w.heap.size w W0 from by rw [hW0]; exact (Below.refl _ _).alloc (Nat.le_refl _) _)
    have HG0 := hid (show W0.heap[w.heap.size]? = some (.cells #[.int .u64 U0, .int .u64 V0, .int .u64 U1, .int .u64 V1, .bool true] 75) from by rw [hW0]; exact heap_alloc_last _ _)
    rw [← hW0]
    obtain ⟨g, hg⟩ : ∃ g, g = w.heap.size := ⟨_, rfl⟩
    rw [← hg] at HG0 ⊢
    have HGE := hid hg
    clear hg hW0
    have c0 : W0.cell? ⟨g, 0, none⟩ = some (.int .u64 U0) := by simp [World.cell?, HG0.out]
    have c1 : W0.cell? ⟨g, 1, none⟩ = some (.int .u64 V0) := by simp [World.cell?, HG0.out]
    have c2 : W0.cell? ⟨g, 2, none⟩ = some (.int .u64 U1) := by simp [World.cell?, HG0.out]
    have c3 : W0.cell? ⟨g, 3, none⟩ = some (.int .u64 V1) := by simp [World.cell?, HG0.out]
    go_region_held3 (fun w' => w'.cell? ⟨g, 0, none⟩ = some (.int .u64 U0) ∧ w'.cell? ⟨g, 1, none⟩ = some (.int .u64 V0) ∧ w'.cell? ⟨g, 2, none⟩ = some (.int .u64 U1) ∧ w'.cell? ⟨g, 3, none⟩ = some (.int .u64 V1) ∧ Hid (Below w.heap.size w w'))
      (first | (with_reducible exact keepG (w := w) (g := g) (v0 := .int .u64 U0) (v1 := .int .u64 V0) (v2 := .int .u64 U1) (v3 := .int .u64 V1) (by assumption) hBz) | (exact ⟨c0, c1, c2, c3, HB0.out.drew⟩) | fail)
      (first | (go_at_call_of 56 (Value.slice pb m d); refine (D1.out _ (belowG (w := w) (g := g) (v0 := .int .u64 U0) (v1 := .int .u64 V0) (v2 := .int .u64 U1) (v3 := .int .u64 V1) (by with_reducible assumption))).mono ?_; rintro e wu ⟨r1, k1, rfl, R1⟩; have hBz := R1.below; have H1 := hid R1.sl; have F1 := hid (fun b o e => Nat.le_trans (belowG (w := w) (g := g) (v0 := .int .u64 U0) (v1 := .int .u64 V0) (v2 := .int .u64 U1) (v3 := .int .u64 V1) (by with_reducible assumption)).size (R1.own b o e).2.1); clear D1)
             | (go_at_call_of 56 (Value.slice pa n c); refine (D2.out _ (belowG (w := w) (g := g) (v0 := .int .u64 U0) (v1 := .int .u64 V0) (v2 := .int .u64 U1) (v3 := .int .u64 V1) (by with_reducible assumption))).mono ?_; rintro e wv ⟨r2, k2, rfl, R2⟩; have hBz := R2.below; have H2 := hid R2.sl; have F2 := hid (fun b o e => Nat.le_trans (belowG (w := w) (g := g) (v0 := .int .u64 U0) (v1 := .int .u64 V0) (v2 := .int .u64 U1) (v3 := .int .u64 V1) (by with_reducible assumption)).size (R2.own b o e).2.1); have H1' := hid (H1.out.below hBz); have HS := hid (keepG (w := w) (g := g) (v0 := .int .u64 U0) (v1 := .int .u64 V0) (v2 := .int .u64 U1) (v3 := .int .u64 V1) (by with_reducible assumption) hBz)))
    all_goals go_wp2
    all_goals go_ret2
    all_goals exact ⟨a', b', r1, r2, k1, k2, rfl, H1'.out, H2.out, HS.out.2.2.2.2.out, FIN.out.1, FIN.out.2.1, FIN.out.2.2.1, FIN.out.2.2.2.1, FIN.out.2.2.2.2, F1.out, F2.out⟩
  · have D1 := hid (fun (W : World) (hB : Below w.heap.size w W) => differ_c W pa pb n c m d xs ys U0 V0 n (h.below hB) (h'.below hB) hU0 hV0 hL hn' (by rw [Nat.mul_comm (val ys), Nat.mul_comm (val xs), e1]; omega) (by rw [Nat.mul_comm (val ys), Nat.mul_comm (val xs), e1]; omega))
    have D2 := hid (fun (W : World) (hB : Below w.heap.size w W) => differ_c W pb pa m d n c ys xs V1 U1 n (h'.below hB) (h.below hB) hV1 hU1 hL' hn' (by rw [Nat.mul_comm (val ys), Nat.mul_comm (val xs), e2]; omega) (by rw [Nat.mul_comm (val ys), Nat.mul_comm (val xs), e2]; omega))
    have E1 : val xs * U0 - val ys * V0 = a' := by rw [Nat.mul_comm (val ys), Nat.mul_comm (val xs), e1]; omega
    have E2 : val ys * V1 - val xs * U1 = b' := by rw [Nat.mul_comm (val ys), Nat.mul_comm (val xs), e2]; omega
    rw [E1] at D1
    rw [E2] at D2
    clear e1 e2 E1 E2 hlt hba hab hgcd h h' hL hL'
    go_enter Tryd.func50, Tryd.ntmps50
    go_wp2_with fail
    obtain ⟨W0, hW0⟩ : ∃ W, W = w.alloc (.cells #[.int .u64 U0, .int .u64 V0, .int .u64 U1, .int .u64 V1, .bool false] 75) := ⟨_, rfl⟩
    have HB0 := hid (show Below w.heap.size w W0 from by rw [hW0]; exact (Below.refl _ _).alloc (Nat.le_refl _) _)
    have HG0 := hid (show W0.heap[w.heap.size]? = some (.cells #[.int .u64 U0, .int .u64 V0, .int .u64 U1, .int .u64 V1, .bool false] 75) from by rw [hW0]; exact heap_alloc_last _ _)
    rw [← hW0]
    obtain ⟨g, hg⟩ : ∃ g, g = w.heap.size := ⟨_, rfl⟩
    rw [← hg] at HG0 ⊢
    have HGE := hid hg
    clear hg hW0
    have c0 : W0.cell? ⟨g, 0, none⟩ = some (.int .u64 U0) := by simp [World.cell?, HG0.out]
    have c1 : W0.cell? ⟨g, 1, none⟩ = some (.int .u64 V0) := by simp [World.cell?, HG0.out]
    have c2 : W0.cell? ⟨g, 2, none⟩ = some (.int .u64 U1) := by simp [World.cell?, HG0.out]
    have c3 : W0.cell? ⟨g, 3, none⟩ = some (.int .u64 V1) := by simp [World.cell?, HG0.out]
    go_region_held3 (fun w' => w'.cell? ⟨g, 0, none⟩ = some (.int .u64 U0) ∧ w'.cell? ⟨g, 1, none⟩ = some (.int .u64 V0) ∧ w'.cell? ⟨g, 2, none⟩ = some (.int .u64 U1) ∧ w'.cell? ⟨g, 3, none⟩ = some (.int .u64 V1) ∧ Hid (Below w.heap.size w w'))
      (first | (with_reducible exact keepG (w := w) (g := g) (v0 := .int .u64 U0) (v1 := .int .u64 V0) (v2 := .int .u64 U1) (v3 := .int .u64 V1) (by assumption) hBz) | (exact ⟨c0, c1, c2, c3, HB0.out.drew⟩) | fail)
      (first | (go_at_call_of 56 (Value.slice pa n c); refine (D1.out _ (belowG (w := w) (g := g) (v0 := .int .u64 U0) (v1 := .int .u64 V0) (v2 := .int .u64 U1) (v3 := .int .u64 V1) (by with_reducible assumption))).mono ?_; rintro e wu ⟨r1, k1, rfl, R1⟩; have hBz := R1.below; have H1 := hid R1.sl; have F1 := hid (fun b o e => Nat.le_trans (belowG (w := w) (g := g) (v0 := .int .u64 U0) (v1 := .int .u64 V0) (v2 := .int .u64 U1) (v3 := .int .u64 V1) (by with_reducible assumption)).size (R1.own b o e).2.1); clear D1)
             | (go_at_call_of 56 (Value.slice pb m d); refine (D2.out _ (belowG (w := w) (g := g) (v0 := .int .u64 U0) (v1 := .int .u64 V0) (v2 := .int .u64 U1) (v3 := .int .u64 V1) (by with_reducible assumption))).mono ?_; rintro e wv ⟨r2, k2, rfl, R2⟩; have hBz := R2.below; have H2 := hid R2.sl; have F2 := hid (fun b o e => Nat.le_trans (belowG (w := w) (g := g) (v0 := .int .u64 U0) (v1 := .int .u64 V0) (v2 := .int .u64 U1) (v3 := .int .u64 V1) (by with_reducible assumption)).size (R2.own b o e).2.1); have H1' := hid (H1.out.below hBz); have HS := hid (keepG (w := w) (g := g) (v0 := .int .u64 U0) (v1 := .int .u64 V0) (v2 := .int .u64 U1) (v3 := .int .u64 V1) (by with_reducible assumption) hBz)))
    all_goals go_wp2
    all_goals go_ret2
    all_goals exact ⟨a', b', r1, r2, k1, k2, rfl, H1'.out, H2.out, HS.out.2.2.2.2.out, FIN.out.1, FIN.out.2.1, FIN.out.2.2.1, FIN.out.2.2.2.1, FIN.out.2.2.2.2, F1.out, F2.out⟩

theorem rests_c (w : World) (pa pb : Option Addr) (n c m d : Nat) (xs ys : List Nat) (U0 V0 U1 V1 : Nat) (odd : Bool) (h : Sl w pa n c xs) (h' : Sl w pb m d ys) (hn' : n ≤ 70368744177664) (hmn : m ≤ n)
    (hU0 : U0 < 4294967296) (hV0 : V0 < 4294967296) (hU1 : U1 < 4294967296) (hV1 : V1 < 4294967296) (hg : Nt.Good (val xs) (val ys) U0 V0 U1 V1 odd) :
    Calls Tryd.prog 50 #[.agg #[.int .u64 U0, .int .u64 V0, .int .u64 U1, .int .u64 V1, .bool odd], .slice pa n c, .slice pb m d] w fun e w' => ∃ (a' b' : Nat) (r r' : Option Addr) (k k' : Nat), e = .returned (.tuple #[.slice r (digs a').length k, .slice r' (digs b').length k']) ∧ Sl w' r (digs a').length k (digs a') ∧ Sl w' r' (digs b').length k' (digs b') ∧ Below w.heap.size w w' ∧ b' < a' ∧ a' ≤ val ys ∧ Nat.gcd a' b' = Nat.gcd (val xs) (val ys) := by
  refine (rests_g w pa pb n c m d xs ys U0 V0 U1 V1 odd h h' hn' hmn hU0 hV0 hU1 hV1 hg).mono ?_
  rintro e w' ⟨a', b', r, r', k, k', h1, h2, h3, h4, h5, h6, h7, -⟩
  exact ⟨a', b', r, r', k, k', h1, h2, h3, h4, h5, h6, h7⟩
end Go.Proofs.YtblmlhhicpomkaaDoor

/-
  nat.lower: on in the row of rests, by many places or by one.
-/
namespace Go.Proofs.YtblmlhhicpomkaaDoor
open Go.RowKit Nt
set_option linter.unusedSimpArgs false
set_option linter.unusedVariables false

/-- Two numbers further down the row. -/
def Dn (w w' : World) (A B : Nat) (r r' : Option Addr) (k k' A' B' : Nat) : Prop :=
  Sl w' r (digs A').length k (digs A') ∧ Sl w' r' (digs B').length k' (digs B') ∧ Below w.heap.size w w' ∧ B' < A' ∧ A' ≤ B ∧ Nat.gcd A' B' = Nat.gcd A B

end Go.Proofs.YtblmlhhicpomkaaDoor
