/-
  euclid.Look: many steps at once.
-/
import Derived.Test.YtblmlhhicpomkaaDoorSetI
import Derived.Test.YtblmlhhicpomkaaDoorSetS
namespace Go.Proofs.YtblmlhhicpomkaaDoor
open Go.RowKit Nt
set_option linter.unusedSimpArgs false
set_option linter.unusedVariables false

theorem wr64 (n : Nat) (h : n < 18446744073709551616) : IntKind.u64.wrap (n : Int) = (n : Int) := by
  simp only [IntKind.wrap_u64]
  omega
theorem look_y (x y : Nat) (hx : x < 18446744073709551616) : IntKind.u64.wrap ((x : Int) - IntKind.u64.wrap (IntKind.u64.wrap ((x : Int) / (y : Int)) * (y : Int))) = ((x % y : Nat) : Int) := by
  have h1 : x / y ≤ x := Nat.div_le_self _ _
  have h2 : x / y * y ≤ x := Nat.div_mul_le_self _ _
  have h3 := Nat.div_add_mod x y
  rw [Nat.mul_comm] at h3
  rw [← Int.natCast_ediv, wr64 (x / y) (by omega), ← Int.natCast_mul, wr64 (x / y * y) (by omega), show (x : Int) - ((x / y * y : Nat) : Int) = ((x % y : Nat) : Int) from by omega, wr64 _ (by omega)]
theorem look_v (x y U u : Nat) (hx : x < 18446744073709551616) (h : U + x / y * u < 18446744073709551616) : IntKind.u64.wrap ((U : Int) + IntKind.u64.wrap (IntKind.u64.wrap ((x : Int) / (y : Int)) * (u : Int))) = ((U + x / y * u : Nat) : Int) := by
  have h1 : x / y ≤ x := Nat.div_le_self _ _
  rw [← Int.natCast_ediv, wr64 (x / y) (by omega), ← Int.natCast_mul, wr64 (x / y * u) (by omega), ← Int.natCast_add, wr64 _ h]
theorem st_set {w : World} {g : Nat} {arr : Array Value} {t : TypeId} {fr : Nat × Nat} (h : w.heap[g]? = some (.cells arr t fr)) (i : Nat) (v : Value) : (w.setCell ⟨g, i, none⟩ v).heap[g]? = some (.cells (arr.setIfInBounds i v) t fr) := by
  rw [setCell_eq_setRow w g i arr _ _ v h]
  exact setRow_heap w g _ _ _ _ h
theorem st_below {w0 w : World} {B g : Nat} {arr : Array Value} {t : TypeId} {fr : Nat × Nat} (h : w.heap[g]? = some (.cells arr t fr)) (i : Nat) (v : Value) (hb : Below B w0 w) (hg : B ≤ g) : Below B w0 (w.setCell ⟨g, i, none⟩ v) := by
  rw [setCell_eq_setRow w g i arr _ _ v h]
  exact below_setRow hb hg _
theorem five {w : World} {g : Nat} {u0 u1 u2 u3 u4 : Value} {t : TypeId} {fr : Nat × Nat} (h : w.heap[g]? = some (.cells #[u0, u1, u2, u3, u4] t fr)) (v0 v1 v2 v3 v4 : Value) :
    (((((w.setCell ⟨g, 0, none⟩ v0).setCell ⟨g, 1, none⟩ v1).setCell ⟨g, 2, none⟩ v2).setCell ⟨g, 3, none⟩ v3).setCell ⟨g, 4, none⟩ v4).heap[g]? = some (.cells #[v0, v1, v2, v3, v4] t fr) := by
  have := st_set (st_set (st_set (st_set (st_set h 0 v0) 1 v1) 2 v2) 3 v3) 4 v4
  rw [this]; rfl
theorem five_below {w0 w : World} {B g : Nat} {u0 u1 u2 u3 u4 : Value} {t : TypeId} {fr : Nat × Nat} (h : w.heap[g]? = some (.cells #[u0, u1, u2, u3, u4] t fr)) (v0 v1 v2 v3 v4 : Value) (hb : Below B w0 w) (hg : B ≤ g) :
    Below B w0 (((((w.setCell ⟨g, 0, none⟩ v0).setCell ⟨g, 1, none⟩ v1).setCell ⟨g, 2, none⟩ v2).setCell ⟨g, 3, none⟩ v3).setCell ⟨g, 4, none⟩ v4) := by
  have k0 := st_set h 0 v0
  have k1 := st_set k0 1 v1
  have k2 := st_set k1 2 v2
  have k3 := st_set k2 3 v3
  exact st_below k3 4 v4 (st_below k2 3 v3 (st_below k1 2 v2 (st_below k0 1 v1 (st_below h 0 v0 hb hg) hg) hg) hg) hg

set_option maxHeartbeats 4000000 in
theorem look_g (w : World) (pa pb : Option Addr) (n c m d : Nat) (xs ys : List Nat) (h : Sl w pa n c xs) (h' : Sl w pb m d ys) (hn : 3 ≤ n) (hn' : n ≤ 70368744177664) (ht : xs.getD (n - 1) 0 ≠ 0) (hmn : m ≤ n) (hle : val ys ≤ val xs) :
    Calls Tryd.prog 49 #[.slice pa n c, .slice pb m d] w fun e w' => ∃ (U0 V0 U1 V1 : Nat) (odd : Bool), e = .returned (.tuple #[.agg #[.int .u64 U0, .int .u64 V0, .int .u64 U1, .int .u64 V1, .bool odd], .bool (!decide (V0 = 0))]) ∧ (U0 < 4294967296 ∧ V0 < 4294967296 ∧ U1 < 4294967296 ∧ V1 < 4294967296) ∧ (V0 ≠ 0 → Nt.Good (val xs) (val ys) U0 V0 U1 V1 odd) ∧ Below w.heap.size w w' ∧ (U0, V0, U1, V1, odd) = lookN xs ys n := by
  have HH := hid (fun (W : World) (hB : Below w.heap.size w W) => highest_c W pa pb n c m d xs ys (h.below hB) (h'.below hB) hn hn' ht hmn hle)
  have HLE := hid hle
  clear h h' ht hle
  go_enter Tryd.func49, Tryd.ntmps49
  go_wp2_with fail
  obtain ⟨W0, hW0⟩ : ∃ W, W = w.alloc (.cells #[.int .u64 0, .int .u64 0, .int .u64 0, .int .u64 0, .bool false] 75) := ⟨_, rfl⟩
  have HB0 := hid (show Below w.heap.size w W0 from by rw [hW0]; exact (Below.refl _ _).alloc (Nat.le_refl _) _)
  have HG0 := hid (show W0.heap[w.heap.size]? = some (.cells #[.int .u64 0, .int .u64 0, .int .u64 0, .int .u64 0, .bool false] 75) from by rw [hW0]; exact heap_alloc_last _ _)
  rw [← hW0]
  refine (HH.out W0 HB0.out).mono ?_
  rintro e w1 ⟨X, Y, K, x0, y0, rfl, ⟨nq, rfl⟩, g1, g2, g3, g4, g5, g6, g7, g8⟩
  have HLN := hid (show lkE X Y 0 0 1 0 0 1 true = lookN xs ys n from by unfold lookN; rw [← g7, ← g8])
  clear g7 g8
  go_wp2_with fail
  rw [← hW0]
  obtain ⟨W1, hW1⟩ : ∃ W, W = (W0.drewN nq).alloc (.cells #[.int .u64 0, .int .u64 0, .int .u64 1, .int .u64 0, .bool true] 75) := ⟨_, rfl⟩
  have HS0 := hid (show W0.heap.size = w.heap.size + 1 from by rw [hW0]; simp)
  have HG1 := hid (show W1.heap[w.heap.size + 1]? = some (.cells #[.int .u64 0, .int .u64 0, .int .u64 1, .int .u64 0, .bool true] 75) from by rw [hW1, ← HS0.out]; exact heap_alloc_last _ _)
  rw [← hW1]
  clear hW0
  obtain ⟨g, hg⟩ : ∃ g, g = w.heap.size + 1 := ⟨_, rfl⟩
  rw [← hg] at HG1 ⊢
  have HGE := hid hg
  have HW1 := hid hW1
  clear hg hW1
  have HI0 := hid (LI.start (X := X) (Y := Y) (K := K) (a0 := x0) (b0 := y0) (top_le (l := x0) (l' := y0) (T := K) (by rw [g3, Nat.mul_comm, Nat.add_comm]) (by rw [g4, Nat.mul_comm, Nat.add_comm]) g1 HLE.out) (by omega))
  have HBX := hid (show Below W0.heap.size W0 W1 from by rw [HW1.out]; exact (below_drewN' (Below.refl _ _) nq).alloc (Nat.le_refl _) _)
  obtain ⟨ρ, hρ⟩ : ∃ ρ, ρ = w.heap.size := ⟨_, rfl⟩
  rw [← hρ]
  have HRR := hid (show W1.heap[ρ]? = some (.cells #[.int .u64 0, .int .u64 0, .int .u64 0, .int .u64 0, .bool false] 75) from by
    rw [(HBX.out.block ρ (by rw [hρ, HS0.out]; omega)), hρ]
    exact HG0.out)
  have HBW := hid (show Below w.heap.size w W1 from HB0.out.trans (HBX.out.mono (by rw [HS0.out]; omega)))
  have HRE := hid hρ
  clear hρ
  go_loopw [6, 7, 9, 10] (fun xv yv uv vv wr => ∃ (x y U0 V0 U1 V1 u2 v2 : Nat) (odd : Bool), xv = .int .u64 x ∧ yv = .int .u64 y ∧ uv = .int .u64 u2 ∧ vv = .int .u64 v2 ∧ Hid (LI X Y K x0 y0 x y U0 V0 U1 V1 u2 v2 odd ∧ wr.heap[g]? = some (.cells #[.int .u64 U0, .int .u64 V0, .int .u64 U1, .int .u64 V1, .bool odd] 75) ∧ (Below g W1 wr ∧ lkE x y U0 V0 U1 V1 u2 v2 odd = lkE X Y 0 0 1 0 0 1 true))) (fun _ yv _ _ _ => (intOf yv).toNat)
  case atStart => exact ⟨X, Y, 0, 0, 1, 0, 0, 1, true, rfl, rfl, rfl, rfl, HI0.out, HG1.out, Below.refl _ _, rfl⟩
  case round =>
    obtain ⟨x, y, U0, V0, U1, V1, u2, v2, odd, rfl, rfl, rfl, rfl, HI⟩ := hrel
    have c0 : wr.cell? ⟨g, 0, none⟩ = some (.int .u64 U0) := by simp [World.cell?, HI.out.2.1]
    have c1 : wr.cell? ⟨g, 1, none⟩ = some (.int .u64 V0) := by simp [World.cell?, HI.out.2.1]
    have c2 : wr.cell? ⟨g, 2, none⟩ = some (.int .u64 U1) := by simp [World.cell?, HI.out.2.1]
    have c3 : wr.cell? ⟨g, 3, none⟩ = some (.int .u64 V1) := by simp [World.cell?, HI.out.2.1]
    have c4 : wr.cell? ⟨g, 4, none⟩ = some (.bool odd) := by simp [World.cell?, HI.out.2.1]
    have HRW : Hid (wr.heap[ρ]? = some (.cells #[.int .u64 0, .int .u64 0, .int .u64 0, .int .u64 0, .bool false] 75)) := by
      rw [HI.out.2.2.1.block ρ (by rw [HRE.out, HGE.out]; omega)]
      exact HRR.out
    have rg : ρ ≠ g := by rw [HRE.out, HGE.out]; omega
    have d0 : wr.cell? ⟨ρ, 0, none⟩ = some (.int .u64 0) := by simp [World.cell?, HRW.out]
    have d1 : wr.cell? ⟨ρ, 1, none⟩ = some (.int .u64 0) := by simp [World.cell?, HRW.out]
    have d2 : wr.cell? ⟨ρ, 2, none⟩ = some (.int .u64 0) := by simp [World.cell?, HRW.out]
    have d3 : wr.cell? ⟨ρ, 3, none⟩ = some (.int .u64 0) := by simp [World.cell?, HRW.out]
    have d4 : wr.cell? ⟨ρ, 4, none⟩ = some (.bool false) := by simp [World.cell?, HRW.out]
    have fr : ∀ i, wr.frozen? ⟨ρ, i, none⟩ = false := fun i => by simp [World.frozen?, HRW.out]
    have fz : ∀ i, wr.frozen? ⟨g, i, none⟩ = false := fun i => by simp [World.frozen?, HI.out.2.1]
    have xb : x < 18446744073709551616 := Nat.lt_of_le_of_lt HI.out.1.xX g6
    have yx := HI.out.1.le
    have vb : v2 < 18446744073709551616 := Nat.lt_of_le_of_lt HI.out.1.vX g6
    have V1b := HI.out.1.small.2.2.2
    have vp := HI.out.1.pos
    have hq := five HRW.out (.int .u64 U0) (.int .u64 V0) (.int .u64 U1) (.int .u64 V1) (.bool odd)
    have hqb := five_below HRW.out (.int .u64 U0) (.int .u64 V0) (.int .u64 U1) (.int .u64 V1) (.bool odd) (HBW.out.trans (HI.out.2.2.1.mono (show w.heap.size ≤ g by rw [HGE.out]; omega))) (by rw [HRE.out]; exact Nat.le_refl _)
    obtain ⟨wz, hwz⟩ : ∃ wz, (((((wr.setCell ⟨ρ, 0, none⟩ (.int .u64 U0)).setCell ⟨ρ, 1, none⟩ (.int .u64 V0)).setCell ⟨ρ, 2, none⟩ (.int .u64 U1)).setCell ⟨ρ, 3, none⟩ (.int .u64 V1)).setCell ⟨ρ, 4, none⟩ (.bool odd)) = wz := ⟨_, rfl⟩
    rw [hwz] at hq hqb
    have hc0 : wz.cell? ⟨ρ, 0, none⟩ = some (.int .u64 U0) := by simp [World.cell?, hq]
    have hc1 : wz.cell? ⟨ρ, 1, none⟩ = some (.int .u64 V0) := by simp [World.cell?, hq]
    have hc2 : wz.cell? ⟨ρ, 2, none⟩ = some (.int .u64 U1) := by simp [World.cell?, hq]
    have hc3 : wz.cell? ⟨ρ, 3, none⟩ = some (.int .u64 V1) := by simp [World.cell?, hq]
    have hc4 : wz.cell? ⟨ρ, 4, none⟩ = some (.bool odd) := by simp [World.cell?, hq]
    have hbo : ((V0 : Int) != 0) = !decide (V0 = 0) := by
      by_cases e : V0 = 0 <;> simp [e]
    have FIN : Hid (¬ (v2 ≤ y ∧ V1 + v2 + y ≤ x) → ∃ (U0' V0' U1' V1' : Nat) (odd' : Bool), Ending.returned (.tuple #[.agg #[.int .u64 U0, .int .u64 V0, .int .u64 U1, .int .u64 V1, .bool odd], .bool (!decide (V0 = 0))]) = .returned (.tuple #[.agg #[.int .u64 U0', .int .u64 V0', .int .u64 U1', .int .u64 V1', .bool odd'], .bool (!decide (V0' = 0))]) ∧ (U0' < 4294967296 ∧ V0' < 4294967296 ∧ U1' < 4294967296 ∧ V1' < 4294967296) ∧ (V0' ≠ 0 → Nt.Good (val xs) (val ys) U0' V0' U1' V1' odd') ∧ Below w.heap.size w wz.drew ∧ (U0', V0', U1', V1', odd') = lookN xs ys n) := by
      refine hid fun hex => ?_
      refine ⟨U0, V0, U1, V1, odd, rfl, HI.out.1.small, fun hne => ?_, hqb.drew, by rw [← HLN.out, ← HI.out.2.2.2, lkE_end hex]⟩
      rw [g3, g4]
      rcases HI.out.1.phase with h | h | h
      · exact absurd h.1 hne
      · exact absurd h.1 hne
      · exact h.2.2.2.2
    have HC := hid hwz
    clear hq hqb hwz
    by_cases hA : v2 ≤ y
    · have vs : v2 < 4294967296 := by
        have e := HI.out.1.high
        have h1 : v2 * v2 ≤ v2 * x := Nat.mul_le_mul_left _ (by omega)
        apply Classical.byContradiction
        intro hc
        have h2 : 4294967296 * 4294967296 ≤ v2 * v2 := Nat.mul_le_mul (by omega) (by omega)
        omega
      by_cases hC : V1 + v2 + y ≤ x
      · go_wp2_with fail
        have HN := HI.out.1.next g1 g2 g6 hA hC
        have hv2 := HN.vX
        have hu2 := HN.uv
        have k0 := st_set HI.out.2.1 0 (.int .u64 U1)
        have k1 := st_set k0 2 (.int .u64 u2)
        have k2 := st_set k1 1 (.int .u64 V1)
        have k3 := st_set k2 3 (.int .u64 v2)
        have k4 := st_set k3 4 (.bool !odd)
        have m0 := st_below HI.out.2.1 0 (.int .u64 U1) HI.out.2.2.1 (Nat.le_refl _)
        have m1 := st_below k0 2 (.int .u64 u2) m0 (Nat.le_refl _)
        have m2 := st_below k1 1 (.int .u64 V1) m1 (Nat.le_refl _)
        have m3 := st_below k2 3 (.int .u64 v2) m2 (Nat.le_refl _)
        have m4 := st_below k3 4 (.bool !odd) m3 (Nat.le_refl _)
        rw [look_y x y xb, look_v x y U1 u2 xb (by omega), look_v x y V1 v2 xb (by omega)]
        refine ⟨⟨y, x % y, U1, V1, u2, v2, U1 + x / y * u2, V1 + x / y * v2, !odd, rfl, rfl, rfl, rfl, HN, ?_, m4, (lkE_go hA hC vp).trans HI.out.2.2.2⟩, ?_⟩
        · rw [k4]; rfl
        · have : x % y < y := Nat.mod_lt _ (by omega)
          simp [intOf]; omega
      · go_wp2_with fail
        go_region_with fail
        all_goals go_wp2
        all_goals rw [HC.out]
        all_goals refine bodyPost_ret (by simp [results, Tryd.results49, go_sem, Act.put, hc0, hc1, hc2, hc3, hc4, hbo]; try rfl) rfl ?_
        all_goals exact FIN.out (fun h => hC h.2)
    · go_wp2_with fail
      go_region_with fail
      all_goals go_wp2
      all_goals rw [HC.out]
      all_goals refine bodyPost_ret (by simp [results, Tryd.results49, go_sem, Act.put, hc0, hc1, hc2, hc3, hc4, hbo]; try rfl) rfl ?_
      all_goals exact FIN.out (fun h => hA h.1)

theorem look_c (w : World) (pa pb : Option Addr) (n c m d : Nat) (xs ys : List Nat) (h : Sl w pa n c xs) (h' : Sl w pb m d ys) (hn : 3 ≤ n) (hn' : n ≤ 70368744177664) (ht : xs.getD (n - 1) 0 ≠ 0) (hmn : m ≤ n) (hle : val ys ≤ val xs) :
    Calls Tryd.prog 49 #[.slice pa n c, .slice pb m d] w fun e w' => ∃ (U0 V0 U1 V1 : Nat) (odd : Bool), e = .returned (.tuple #[.agg #[.int .u64 U0, .int .u64 V0, .int .u64 U1, .int .u64 V1, .bool odd], .bool (!decide (V0 = 0))]) ∧ (U0 < 4294967296 ∧ V0 < 4294967296 ∧ U1 < 4294967296 ∧ V1 < 4294967296) ∧ (V0 ≠ 0 → Nt.Good (val xs) (val ys) U0 V0 U1 V1 odd) ∧ Below w.heap.size w w' := by
  refine (look_g w pa pb n c m d xs ys h h' hn hn' ht hmn hle).mono ?_
  rintro e w' ⟨U0, V0, U1, V1, odd, h1, h2, h3, h4, -⟩
  exact ⟨U0, V0, U1, V1, odd, h1, h2, h3, h4⟩
end Go.Proofs.YtblmlhhicpomkaaDoor
