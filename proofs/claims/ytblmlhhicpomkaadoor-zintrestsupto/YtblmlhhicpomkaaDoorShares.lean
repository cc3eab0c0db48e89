/-
  euclid.Steps.Shares: what the numbers behind the steps are made of.
-/
import Derived.Test.YtblmlhhicpomkaaDoorUnite
import Derived.Test.YtblmlhhicpomkaaDoorSetV
namespace Go.Proofs.YtblmlhhicpomkaaDoor
open Go.RowKit Nt
set_option linter.unusedSimpArgs false
set_option linter.unusedVariables false

set_option maxHeartbeats 2000000 in
theorem shares_c (w : World) (pa pb : Option Addr) (n c m d : Nat) (xs ys : List Nat) (U0 V0 U1 V1 : Nat) (odd : Bool) (h : Sl w pa n c xs) (h' : Sl w pb m d ys) (hn' : n + 2 ≤ 70368744177664) (hm' : m + 2 ≤ 70368744177664)
    (hU0 : U0 < 4294967296) (hV0 : V0 < 4294967296) (hU1 : U1 < 4294967296) (hV1 : V1 < 4294967296) (X Y : Nat) (eX : U0 * val xs + V0 * val ys = X) (eY : U1 * val xs + V1 * val ys = Y) :
    Calls Tryd.prog 51 #[.agg #[.int .u64 U0, .int .u64 V0, .int .u64 U1, .int .u64 V1, .bool odd], .slice pa n c, .slice pb m d] w fun e w' => ∃ (r r' : Option Addr) (k k' : Nat), e = .returned (.tuple #[.slice r (digs X).length k, .slice r' (digs Y).length k']) ∧ Sl w' r (digs X).length k (digs X) ∧ Sl w' r' (digs Y).length k' (digs Y) ∧ Below w.heap.size w w' ∧ (∀ b o, r = some ⟨b, o, none⟩ → w.heap.size ≤ b) ∧ (∀ b o, r' = some ⟨b, o, none⟩ → w.heap.size ≤ b) := by
  have D1 := hid (fun (W : World) (hB : Below w.heap.size w W) => unite_c W pa pb n c m d xs ys U0 V0 _ (h.below hB) (h'.below hB) hU0 hV0 rfl (by omega))
  have D2 := hid (fun (W : World) (hB : Below w.heap.size w W) => unite_c W pa pb n c m d xs ys U1 V1 _ (h.below hB) (h'.below hB) hU1 hV1 rfl (by omega))
  rw [Nat.mul_comm (val xs) U0, Nat.mul_comm (val ys) V0, eX] at D1
  rw [Nat.mul_comm (val xs) U1, Nat.mul_comm (val ys) V1, eY] at D2
  clear h h' eX eY
  go_enter Tryd.func51, Tryd.ntmps51
  go_wp2_with fail
  obtain ⟨W0, hW0⟩ : ∃ W, W = w.alloc (.cells #[.int .u64 U0, .int .u64 V0, .int .u64 U1, .int .u64 V1, .bool odd] 75) := ⟨_, rfl⟩
  have HB0 := hid (show Below w.heap.size w W0 from by rw [hW0]; exact (Below.refl _ _).alloc (Nat.le_refl _) _)
  have HG0 := hid (show W0.heap[w.heap.size]? = some (.cells #[.int .u64 U0, .int .u64 V0, .int .u64 U1, .int .u64 V1, .bool odd] 75) from by rw [hW0]; exact heap_alloc_last _ _)
  rw [← hW0]
  obtain ⟨g, hg⟩ : ∃ g, g = w.heap.size := ⟨_, rfl⟩
  rw [← hg] at HG0 ⊢
  have HGE := hid hg
  clear hg hW0
  have c0 : W0.cell? ⟨g, 0, none⟩ = some (.int .u64 U0) := by simp [World.cell?, HG0.out]
  have c1 : W0.cell? ⟨g, 1, none⟩ = some (.int .u64 V0) := by simp [World.cell?, HG0.out]
  have c2 : W0.cell? ⟨g, 2, none⟩ = some (.int .u64 U1) := by simp [World.cell?, HG0.out]
  have c3 : W0.cell? ⟨g, 3, none⟩ = some (.int .u64 V1) := by simp [World.cell?, HG0.out]
  go_region_held3 (fun w' => w'.cell? ⟨g, 0, none⟩ = some (.int .u64 U0) ∧ w'.cell? ⟨g, 1, none⟩ = some (.int .u64 V0) ∧ w'.cell? ⟨g, 2, none⟩ = some (.int .u64 U1) ∧ w'.cell? ⟨g, 3, none⟩ = some (.int .u64 V1) ∧ Hid (Below w.heap.size w w'))
    (first | (with_reducible exact keepG (w := w) (g := g) (v0 := .int .u64 U0) (v1 := .int .u64 V0) (v2 := .int .u64 U1) (v3 := .int .u64 V1) (by assumption) hBz) | (exact ⟨c0, c1, c2, c3, HB0.out.drew⟩) | fail)
    (first | (go_at_call_of 57 (Value.slice pa n c); refine (D1.out _ (belowG (w := w) (g := g) (v0 := .int .u64 U0) (v1 := .int .u64 V0) (v2 := .int .u64 U1) (v3 := .int .u64 V1) (by with_reducible assumption))).mono ?_; rintro e wu ⟨r1, k1, rfl, R1⟩; have hBz := R1.below; have H1 := hid R1.sl; have F1 := hid (fun b o e => Nat.le_trans (belowG (w := w) (g := g) (v0 := .int .u64 U0) (v1 := .int .u64 V0) (v2 := .int .u64 U1) (v3 := .int .u64 V1) (by with_reducible assumption)).size (R1.own b o e).2.1); clear D1)
           | (go_at_call_of 57 (Value.slice pa n c); refine (D2.out _ (belowG (w := w) (g := g) (v0 := .int .u64 U0) (v1 := .int .u64 V0) (v2 := .int .u64 U1) (v3 := .int .u64 V1) (by with_reducible assumption))).mono ?_; rintro e wv ⟨r2, k2, rfl, R2⟩; have hBz := R2.below; have H2 := hid R2.sl; have F2 := hid (fun b o e => Nat.le_trans (belowG (w := w) (g := g) (v0 := .int .u64 U0) (v1 := .int .u64 V0) (v2 := .int .u64 U1) (v3 := .int .u64 V1) (by with_reducible assumption)).size (R2.own b o e).2.1); have H1' := hid (H1.out.below hBz); have HS := hid (keepG (w := w) (g := g) (v0 := .int .u64 U0) (v1 := .int .u64 V0) (v2 := .int .u64 U1) (v3 := .int .u64 V1) (by with_reducible assumption) hBz)))
  all_goals go_wp2
  all_goals go_ret2
  all_goals exact ⟨r1, r2, k1, k2, rfl, H1'.out, H2.out, HS.out.2.2.2.2.out, F1.out, F2.out⟩
end Go.Proofs.YtblmlhhicpomkaaDoor
