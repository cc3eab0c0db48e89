import Derived.Test.YteamecapeghnoaaGreatDoorRConts
/-
  rat.fold hands the one rational of a list to a closure; rules for rat.sum and rat.minus.
-/
namespace Go.Proofs.YteamecapeghnoaaGreatDoor
open Go Go.RowKit Nt
set_option linter.unusedSimpArgs false
set_option linter.unusedVariables false
set_option maxRecDepth 20000

set_option maxHeartbeats 2000000 in
theorem fold_c (w : World) (g b1 b2 : Nat) (x0 x1 y0 y1 : Value) (s t : Bool) (p q : Option Addr) (n c m d : Nat) (hg : w.heap[g]? = some (.cells #[x0, x1, y0, y1, .bool s, .slice p n c, .bool t, .slice q m d] 26 (0, 0))) (Post : World → World → Prop)
    (SC : Hid (∀ W', Below w.heap.size w W' → Calls Tryz.prog 40 #[.agg #[.bool s, .slice p n c, .bool t, .slice q m d], .pointer (some ⟨b1, 0, none⟩), .pointer (some ⟨b2, 0, none⟩)] W' fun e W'' => e = .returned (.tuple #[]) ∧ Hid (Post W' W''))) :
    Calls Tryz.prog 39 #[.slice (some ⟨g, 4, none⟩) 1 1, .func (.func 40) #[] #[.pointer (some ⟨b1, 0, none⟩), .pointer (some ⟨b2, 0, none⟩)]] w fun e w' => e = .returned (.tuple #[]) ∧ ∃ W1, Below w.heap.size w W1 ∧ Post W1 w' := by
  have c4 : w.cell? ⟨g, 4, none⟩ = some (.bool s) := (cell_of hg).trans rfl
  have c5 : w.cell? ⟨g, 5, none⟩ = some (.slice p n c) := (cell_of hg).trans rfl
  have c6 : w.cell? ⟨g, 6, none⟩ = some (.bool t) := (cell_of hg).trans rfl
  have c7 : w.cell? ⟨g, 7, none⟩ = some (.slice q m d) := (cell_of hg).trans rfl
  clear hg
  go_enter Tryz.func39, Tryz.ntmps39
  go_wp2
  go_loopw [8] (fun i wr => (i = .int .i64 0 ∧ wr = w) ∨ (i = .int .i64 1 ∧ ∃ W1, Hid (Below w.heap.size w W1 ∧ Post W1 wr))) (fun i _ => 1 - (intOf i).toNat)
  case atStart => exact Or.inl ⟨rfl, rfl⟩
  case round =>
    rcases hrel with ⟨rfl, rfl⟩ | ⟨rfl, W1, HB⟩
    · go_wp2_with (go_at_call 40; refine (SC.out _ (below_alloc _ _)).mono ?_; rintro e w1 ⟨rfl, hP⟩)
      go_roundw
      case rel => exact Or.inr ⟨rfl, _, below_alloc _ _, hP⟩
      case measure => simp [intOf]
    · go_wp2
      exact ⟨rfl, .tuple #[], by rw [results_eq, show Func.results _ = #[] from rfl]; simp [Sem.run_bind], rfl, W1, HB.out⟩
end Go.Proofs.YteamecapeghnoaaGreatDoor

/-
  rat.sum with its closure, rat.minus, rat.Add, rat.Sub.
-/
namespace Go.Proofs.YteamecapeghnoaaGreatDoor
open Go Go.RowKit Nt
set_option linter.unusedSimpArgs false
set_option linter.unusedVariables false
set_option maxRecDepth 20000


/-- A list of two rationals that came in. -/
def RX (g : Nat) (x0 x1 y0 y1 z0 z1 u0 u1 : Value) (φ ψ φ' ψ' : Pr) : Pr := fun v w => v = .slice (some ⟨g, 0, none⟩) 2 2 ∧ w.heap[g]? = some (.cells #[x0, x1, y0, y1, z0, z1, u0, u1] 26 (0, 0)) ∧ φ (.agg #[x0, x1]) w ∧ ψ (.agg #[y0, y1]) w ∧ φ' (.agg #[z0, z1]) w ∧ ψ' (.agg #[u0, u1]) w
theorem rx_rl2 {g : Nat} {x0 x1 y0 y1 z0 z1 u0 u1 : Value} {φ ψ φ' ψ' : Pr} : ∀ v w, RX g x0 x1 y0 y1 z0 z1 u0 u1 φ ψ φ' ψ' v w → RL2 (PR φ ψ) (PR φ' ψ') 0 v w := fun v w ⟨e, h, a, b, c, d⟩ => ⟨g, x0, x1, y0, y1, z0, z1, u0, u1, e, Nat.zero_le _, h, ⟨_, _, _, _, rfl, a, b⟩, ⟨_, _, _, _, rfl, c, d⟩⟩
section
variable {ops : Array Oper} {l : List Kd} {bx : Bxs} {sl : List (Tmp × Pr)} {i : Nat} {o : Oper} {Q : Exit → Act → World → Prop} {a0 : Act} {n : Nat} {w0 : World}
theorem owe_rxat {x : Operand} {g : Nat} {x0 x1 y0 y1 z0 z1 u0 u1 : Value} {φ ψ φ' ψ' : Pr} (ho : ops[i]? = some o) (hw : Wants ops l bx sl i o) (hop : o.op = .indexAddr 57 x (.const (.int .i64 0))) (hx : Opnd ops l bx sl i x (RX g x0 x1 y0 y1 z0 z1 u0 u1 φ ψ φ' ψ')) (hk : kdAt l i = .val (Is (.pointer (some ⟨g, 0, none⟩)))) : Owed Tryz.prog ops Q l bx sl a0 n w0 i :=
  owe_is ho hw hk fun vs B a w c => by
    have e := (hx a0 n w0 vs B a w c).now.1
    have e2 : a.eval (.const (.int .i64 0)) = .int .i64 0 := rfl
    unfold execOp
    rw [hop]
    generalize a.eval = ρ at e e2
    go_simp
theorem owe_rxload {x y : Operand} {φ χ : Pr} {g off : Nat} {c0 c1 : Value} (ho : ops[i]? = some o) (hw : Wants ops l bx sl i o) (hop : o.op = .load 24 x) (hx : Opnd ops l bx sl i x (Is (.pointer (some ⟨g, off, none⟩)))) (hy : Opnd ops l bx sl i y φ) (h : ∀ v w, φ v w → w.cell? ⟨g, off, none⟩ = some c0 ∧ w.cell? ⟨g, off + 1, none⟩ = some c1 ∧ χ (.agg #[c0, c1]) w) (hk : kdAt l i = .val χ) : Owed Tryz.prog ops Q l bx sl a0 n w0 i :=
  owe_val ho hw hk fun vs B a w c => by
    have hy := hy a0 n w0 vs B a w c
    obtain ⟨h0, h1, _⟩ := h _ w hy.now
    refine ⟨.agg #[c0, c1], ?_, fun w' e' => (h _ w' (hy w' e')).2.2⟩
    have := load_mid (ρ := a.eval) (o := o) (x := x) (hx a0 n w0 vs B a w c).now h0 h1
    rw [← this]
    unfold execOp
    rw [hop]
/-- A call whose rational takes over the denominator as it is. -/
theorem owe_callPR {φ ξ : Pr} {ψ : Nat → Pr} {f : FuncId} {x : Operand} {ts : Array TypeId} (ho : ops[i]? = some o) (hw : Wants ops l bx sl i o) (hop : o.op = .call { callee := .value (.func f), args := #[x], argTypes := ts }) (hx : Opnd ops l bx sl i x (PR φ ξ)) (hξ : Shp 2 ξ) (hF : Fresh ψ) (hk : kdAt l i = .val (PR (ψ w0.heap.size) ξ))
    (hcf : ∀ args w, (callFunc f args).run Tryz.prog w = .ok (.enter f args) w)
    (C : ∀ w u y0 y1, y0.oneCell' = true ∧ y1.oneCell' = true → PR φ (Is (.agg #[y0, y1])) u w → Calls Tryz.prog f #[u] w (Gives (PRF ψ (IS (.agg #[y0, y1]))) w)) : Owed Tryz.prog ops Q l bx sl a0 n w0 i := fun vs B a w c o' ho' => by
  obtain rfl : o = o' := Option.some.inj (ho.symm.trans ho')
  have hv := hx a0 n w0 vs B a w c
  obtain ⟨x0, x1, y0, y1, e, h1, h2⟩ := hv.now
  have hc := pair_cells hξ h2
  have hr : (execOp a.eval o).run Tryz.prog w = .ok (.enter f #[a.eval x]) w := by
    unfold execOp
    rw [hop]
    have hf : a.eval (.func f) = .func (.func f) #[] #[] := rfl
    clear hv hx c C
    generalize a.eval = ρ at hf
    go_simp
  simp only [wpOp, ho]
  rw [if_pos (hw a0 n w0 vs B a w c)]
  refine Or.inl ?_
  unfold Oper.wp
  rw [hr, Oper.upon_enter]
  refine (C w _ y0 y1 hc ⟨x0, x1, y0, y1, e, h1, rfl⟩).mono ?_
  rintro e' w' ⟨v, rfl, hb, p0, p1, q0, q1, ev, hψ, hi⟩
  have hi : Value.agg #[q0, q1] = .agg #[y0, y1] := hi
  simp at hi
  obtain ⟨rfl, rfl⟩ := hi
  refine ⟨v, rfl, ?_⟩
  rw [hk]
  refine ⟨hb, fun w'' e'' => ⟨p0, p1, q0, q1, ev, hF.mono _ _ _ _ c.lo (hF.ev _ _ _ _ B (fun k hk => (c.bnd k hk).2) hψ e''), ?_⟩⟩
  obtain ⟨x0', x1', y0', y1', e2, _, h2'⟩ := hv w'' ((Ev.of_below hb).back (fun _ _ h => h) e'')
  rw [e] at e2
  simp at e2
  rw [e2.2.2.1, e2.2.2.2]
  exact h2'
end
theorem shp_cells {y0 y1 : Value} (h : y0.oneCell' = true ∧ y1.oneCell' = true) : Shp 2 (Is (.agg #[y0, y1])) := fun u w e => ⟨_, e, rfl, by simp [h.1, h.2]⟩
theorem rv4_cells {A D : Int} {k k' : Nat} {x0 x1 y0 y1 : Value} {w : World} (h : Zv A k (.agg #[x0, x1]) w) (h' : Zv D k' (.agg #[y0, y1]) w) : ∃ s p n c t q m d, x0 = .bool s ∧ x1 = .slice p n c ∧ y0 = .bool t ∧ y1 = .slice q m d := by
  obtain ⟨s, p, n, c, xs, e, _⟩ := h
  obtain ⟨t, q, m, d, ys, e', _⟩ := h'
  simp at e e'
  exact ⟨s, p, n, c, t, q, m, d, e.1, e.2, e'.1, e'.2⟩

set_option maxHeartbeats 400000 in
theorem sumclo_w (w w0 : World) (b1 b2 : Nat) (A D N M : Int) (ka kd kn km : Nat) (r u1 u2 : Value) (hcut : Below w0.heap.size w0 w) (hB : ∀ k, (fun k => k = b1 ∨ k = b2) k → w0.heap.size ≤ k ∧ k < w.heap.size) (hne : b1 ≠ b2) (h1 : w.heap[b1]? = some (.cells u1.cells 24 (0, 0))) (h2 : w.heap[b2]? = some (.cells u2.cells 24 (0, 0))) (hu1 : Has (fun k => k = b1 ∨ k = b2) w (Zv A ka) u1) (hu2 : Has (fun k => k = b1 ∨ k = b2) w (Zv D kd) u2) (hr : Has (fun k => k = b1 ∨ k = b2) w (Rv N M kn km) r) (dA : (digs (A * M).natAbs).length ≤ ka + km) (dN : (digs (N * D).natAbs).length ≤ kn + kd) (hs1 : ka ≤ 16777216) (hs2 : kd ≤ 16777216) (hs3 : kn ≤ 16777216) (hs4 : km ≤ 16777216) :
    Calls Tryz.prog 40 #[r, .pointer (some ⟨b1, 0, none⟩), .pointer (some ⟨b2, 0, none⟩)] w (fun e w' => e = .returned (.tuple #[]) ∧ Ev (fun k => k = b1 ∨ k = b2) w w' ∧ ∃ v1 v2 : Value, w'.heap[b1]? = some (.cells v1.cells 24 (0, 0)) ∧ ZN (A * M + N * D) w.heap.size v1 w' ∧ w'.heap[b2]? = some (.cells v2.cells 24 (0, 0)) ∧ ZN (D * M) w.heap.size v2 w') := by
  refine calls_own (bx := [(1, (.box 24 (Zv A ka))), (2, (.box 24 (Zv D kd)))]) (sl := [(0, (PR (Zv N kn) (Zv M km))), (1, (Is (.pointer (some ⟨b1, 0, none⟩)))), (2, (Is (.pointer (some ⟨b2, 0, none⟩))))]) (B := (fun k => k = b1 ∨ k = b2)) Tryz.func40 rfl Tryz.ntmps40 (by simp) hcut hB (by simp only [List.mem_cons, List.not_mem_nil, or_false, forall_eq_or_imp, forall_eq]; exact ⟨⟨_, rfl, b1, u1, rfl, Or.inl rfl, h1, hu1⟩, ⟨_, rfl, b2, u2, rfl, Or.inr rfl, h2, hu2⟩⟩) (by simp only [List.mem_cons, List.not_mem_nil, or_false, forall_eq_or_imp, forall_eq]; simp [vblock]; omega) (by simp only [List.mem_cons, List.not_mem_nil, or_false, forall_eq_or_imp, forall_eq]; exact ⟨⟨_, rfl, hr⟩, ⟨_, rfl, fun _ _ => rfl⟩, ⟨_, rfl, fun _ _ => rfl⟩⟩) ?_
  intro a0 S0
  replace S0 : Sta w0 17 [(1, (.box 24 (Zv A ka))), (2, (.box 24 (Zv D kd)))] [(0, (PR (Zv N kn) (Zv M km))), (1, (Is (.pointer (some ⟨b1, 0, none⟩)))), (2, (Is (.pointer (some ⟨b2, 0, none⟩)))), (0, (Keep (fun k => k = b1 ∨ k = b2) w))] (fun k => k = b1 ∨ k = b2) a0 w := S0
  obtain ⟨B0, hB0⟩ : ∃ B, B = (fun k => k = b1 ∨ k = b2) := ⟨_, rfl⟩
  refine wp_stmt_seq [.new (.box 26 (PR (Zv N kn) (Zv M km)))] [.inr 0, .inr 1, .inl 0] [.inr 1, .inr 2, .inr 3] follows S0 rfl (by kernel_rfl) ?_ ?_
  · refine ⟨trivial, ?_⟩
    · exact owe_box rfl (wants_all rfl) rfl (opnd_slot 0 0 rfl (by kernel_rfl)) rfl (fun ρ w h => box_rat (shp_pr shp_zv shp_zv) ρ _ _ w h)
  intro B1 a1 W1 S1
  replace S1 : Sta w0 17 [(1, (.box 24 (Zv A ka))), (2, (.box 24 (Zv D kd))), (3, (.box 26 (PR (Zv N kn) (Zv M km))))] [(1, (Is (.pointer (some ⟨b1, 0, none⟩)))), (2, (Is (.pointer (some ⟨b2, 0, none⟩)))), (0, (Keep (fun k => k = b1 ∨ k = b2) w))] B1 a1 W1 := S1
  refine wp_stmt_seq [.val (Zv A ka),
      .val (Part a1 3 2),
      .val (Zv M km),
      .val ((ZN (A * M)) w.heap.size),
      .val (Part a1 3 0),
      .val (Zv N kn),
      .val (Zv D kd),
      .val ((ZN (N * D)) w.heap.size),
      .val ((ZN ((A * M) + (N * D))) w.heap.size),
      .put (.inl 1) (.box 24 ((ZN ((A * M) + (N * D))) w.heap.size))] [.inr 0, .inr 1, .inr 2] [.inr 0, .inr 1, .inr 2] follows S1 rfl (by kernel_rfl) ?_ ?_
  · refine ⟨⟨⟨⟨⟨⟨⟨⟨⟨⟨trivial, ?_⟩, ?_⟩, ?_⟩, ?_⟩, ?_⟩, ?_⟩, ?_⟩, ?_⟩, ?_⟩, ?_⟩
    · exact owe_load rfl (wants_all rfl) rfl (k := 0) rfl (by kernel_rfl) (loads_of strct_int shp_zv) rfl
    · exact owe_part rfl (wants_all rfl) rfl (k := 2) rfl (by kernel_rfl) rfl (fun ρ w b h => part_rat1 ρ _ _ w b 0 h)
    · exact owe_pload rfl (wants_all rfl) rfl (opnd_op 1 5 (by kernel_rfl) rfl) (k := 2) rfl (by kernel_rfl) rfl (fun ρ w b u h1 h2 h3 => pload_den ρ _ _ w b u h1 h2 h3)
    · exact owe_call2K rfl (wants_all rfl) rfl (opnd_op 0 4 (by kernel_rfl) rfl) (opnd_op 2 6 (by kernel_rfl) rfl) (fresh_zn _) (opnd_slot 2 0 rfl (by kernel_rfl)) rfl (fun args w => by go_simp) (fun w u v h1 h2 => g_zmul (by omega) w u v ((fun _ _ h => h) _ _ h1) ((fun _ _ h => h) _ _ h2))
    · exact owe_part rfl (wants_all rfl) rfl (k := 2) rfl (by kernel_rfl) rfl (fun ρ w b h => part_rat0 ρ _ _ w b 0 h)
    · exact owe_pload rfl (wants_all rfl) rfl (opnd_op 4 8 (by kernel_rfl) rfl) (k := 2) rfl (by kernel_rfl) rfl (fun ρ w b u h1 h2 h3 => pload_num ρ _ _ w b u h1 h2 h3)
    · exact owe_load rfl (wants_all rfl) rfl (k := 1) rfl (by kernel_rfl) (loads_of strct_int shp_zv) rfl
    · exact owe_call2K rfl (wants_all rfl) rfl (opnd_op 5 9 (by kernel_rfl) rfl) (opnd_op 6 10 (by kernel_rfl) rfl) (fresh_zn _) (opnd_slot 2 0 rfl (by kernel_rfl)) rfl (fun args w => by go_simp) (fun w u v h1 h2 => g_zmul (by omega) w u v ((fun _ _ h => h) _ _ h1) ((fun _ _ h => h) _ _ h2))
    · exact owe_call2K rfl (wants_all rfl) rfl (opnd_op 3 7 (by kernel_rfl) rfl) (opnd_op 7 11 (by kernel_rfl) rfl) (fresh_zn _) (opnd_slot 2 0 rfl (by kernel_rfl)) rfl (fun args w => by go_simp) (fun w u v h1 h2 => g_zadd (by omega) (by omega) w u v ((zn_zv dA) _ _ h1) ((zn_zv dN) _ _ h2))
    · exact owe_set rfl (wants_all rfl) rfl (k := 0) rfl (by kernel_rfl) (opnd_op 8 12 (by kernel_rfl) rfl) (stores_of strct_int shp_zv shp_zn) rfl
  intro B2 a2 W2 S2
  replace S2 : Sta w0 17 [(1, (.box 24 ((ZN ((A * M) + (N * D))) w.heap.size))), (2, (.box 24 (Zv D kd))), (3, (.box 26 (PR (Zv N kn) (Zv M km))))] [(1, (Is (.pointer (some ⟨b1, 0, none⟩)))), (2, (Is (.pointer (some ⟨b2, 0, none⟩)))), (0, (Keep (fun k => k = b1 ∨ k = b2) w))] B2 a2 W2 := S2
  refine wp_stmt [.val (Zv D kd),
      .val (Part a2 3 2),
      .val (Zv M km),
      .val ((ZN (D * M)) w.heap.size),
      .put (.inl 2) (.box 24 ((ZN (D * M)) w.heap.size))] [.inr 0, .inr 1, .inr 2] [.inr 0, .inr 1, .inr 2] follows S2 rfl (by kernel_rfl) ?_ ?_
  · refine ⟨⟨⟨⟨⟨trivial, ?_⟩, ?_⟩, ?_⟩, ?_⟩, ?_⟩
    · exact owe_load rfl (wants_all rfl) rfl (k := 1) rfl (by kernel_rfl) (loads_of strct_int shp_zv) rfl
    · exact owe_part rfl (wants_all rfl) rfl (k := 2) rfl (by kernel_rfl) rfl (fun ρ w b h => part_rat1 ρ _ _ w b 0 h)
    · exact owe_pload rfl (wants_all rfl) rfl (opnd_op 1 14 (by kernel_rfl) rfl) (k := 2) rfl (by kernel_rfl) rfl (fun ρ w b u h1 h2 h3 => pload_den ρ _ _ w b u h1 h2 h3)
    · exact owe_call2K rfl (wants_all rfl) rfl (opnd_op 0 13 (by kernel_rfl) rfl) (opnd_op 2 15 (by kernel_rfl) rfl) (fresh_zn _) (opnd_slot 2 0 rfl (by kernel_rfl)) rfl (fun args w => by go_simp) (fun w u v h1 h2 => g_zmul (by omega) w u v ((fun _ _ h => h) _ _ h1) ((fun _ _ h => h) _ _ h2))
    · exact owe_set rfl (wants_all rfl) rfl (k := 1) rfl (by kernel_rfl) (opnd_op 3 16 (by kernel_rfl) rfl) (stores_of strct_int shp_zv shp_zn) rfl
  intro B3 a3 W3 S3
  replace S3 : Sta w0 17 [(1, (.box 24 ((ZN ((A * M) + (N * D))) w.heap.size))), (2, (.box 24 ((ZN (D * M)) w.heap.size))), (3, (.box 26 (PR (Zv N kn) (Zv M km))))] [(1, (Is (.pointer (some ⟨b1, 0, none⟩)))), (2, (Is (.pointer (some ⟨b2, 0, none⟩)))), (0, (Keep (fun k => k = b1 ∨ k = b2) w))] B3 a3 W3 := S3
  refine (end_none S3 rfl ?_).1
  obtain ⟨v1, e1, f1⟩ := S3.content_at 0 1 rfl 0 rfl
  obtain ⟨v2, e2, f2⟩ := S3.content_at 1 2 rfl 1 rfl
  exact ⟨rfl, S3.slot 2 0 rfl, v1, v2, e1, f1, e2, f2⟩

set_option maxHeartbeats 400000 in
theorem minus_w (w : World) (A : Int) (k : Nat) (u y0 y1 : Value) (hc : y0.oneCell' = true ∧ y1.oneCell' = true) (h : PR (Zv A k) (Is (.agg #[y0, y1])) u w) (hk : k ≤ 67108864) :
    Calls Tryz.prog 21 #[u] w (Gives (PRF (ZN (-A)) (IS (.agg #[y0, y1]))) w) := by
  refine calls_sta (sl := [(0, (PR (Zv A k) (Is (.agg #[y0, y1]))))]) Tryz.func21 rfl Tryz.ntmps21 (by simp) (args_cons rfl (pr_has h (fun _ => zv_has) (fun _ e _ _ => e)) args_nil) ?_
  intro a0 S0
  refine wp_stmt_seq [.new (.box 26 (PR (Zv A k) (Is (.agg #[y0, y1])))),
      .new (.box 26 (Is (.agg #[.bool false, .slice none 0 0, .bool false, .slice none 0 0])))] [.inl 0, .inl 1] [] follows S0 rfl (by kernel_rfl) ?_ ?_
  · refine ⟨⟨trivial, ?_⟩, ?_⟩
    · exact owe_box rfl (wants_all rfl) rfl (opnd_slot 0 0 rfl (by kernel_rfl)) rfl (fun ρ w h => box_rat (shp_pr shp_zv (shp_cells hc)) ρ _ _ w h)
    · exact owe_new rfl (wants_all rfl) rfl rfl (fun ρ w => alloc_rat ρ _ w)
  intro B1 a1 W1 S1
  replace S1 : Sta w 9 [(1, (.box 26 (PR (Zv A k) (Is (.agg #[y0, y1]))))), (2, (.box 26 (Is (.agg #[.bool false, .slice none 0 0, .bool false, .slice none 0 0]))))] [] B1 a1 W1 := S1
  refine wp_stmt_seq [.val (Part a1 1 0),
      .val (Zv A k),
      .val ((ZN (-A)) w.heap.size),
      .val (Part a1 1 2),
      .val (Is (.agg #[y0, y1])),
      .val (PR ((ZN (-A)) w.heap.size) (Is (.agg #[y0, y1]))),
      .put (.inl 2) (.box 26 (PR ((ZN (-A)) w.heap.size) (Is (.agg #[y0, y1]))))] [.inr 0, .inr 1] [] follows S1 rfl (by kernel_rfl) ?_ ?_
  · refine ⟨⟨⟨⟨⟨⟨⟨trivial, ?_⟩, ?_⟩, ?_⟩, ?_⟩, ?_⟩, ?_⟩, ?_⟩
    · exact owe_part rfl (wants_all rfl) rfl (k := 0) rfl (by kernel_rfl) rfl (fun ρ w b h => part_rat0 ρ _ _ w b 0 h)
    · exact owe_pload rfl (wants_all rfl) rfl (opnd_op 0 3 (by kernel_rfl) rfl) (k := 0) rfl (by kernel_rfl) rfl (fun ρ w b u h1 h2 h3 => pload_num ρ _ _ w b u h1 h2 h3)
    · exact owe_call1 rfl (wants_all rfl) rfl (opnd_op 1 4 (by kernel_rfl) rfl) (fresh_zn _) rfl (fun args w => by go_simp) (fun w u h1 => g_zneg (by omega) w u ((fun _ _ h => h) _ _ h1))
    · exact owe_part rfl (wants_all rfl) rfl (k := 0) rfl (by kernel_rfl) rfl (fun ρ w b h => part_rat1 ρ _ _ w b 0 h)
    · exact owe_pload rfl (wants_all rfl) rfl (opnd_op 3 6 (by kernel_rfl) rfl) (k := 0) rfl (by kernel_rfl) rfl (fun ρ w b u h1 h2 h3 => pload_den ρ _ _ w b u h1 h2 h3)
    · exact owe_build2 rfl (wants_all rfl) rfl (opnd_op 2 5 (by kernel_rfl) rfl) (opnd_op 4 7 (by kernel_rfl) rfl) shp_zn (shp_cells hc) rfl
    · exact owe_set rfl (wants_all rfl) rfl (k := 1) rfl (by kernel_rfl) (opnd_op 5 8 (by kernel_rfl) rfl) (stores_of strct_rat shp_r0 (shp_pr shp_zn (shp_cells hc))) rfl
  intro B2 a2 W2 S2
  replace S2 : Sta w 9 [(1, (.box 26 (PR (Zv A k) (Is (.agg #[y0, y1]))))), (2, (.box 26 (PR ((ZN (-A)) w.heap.size) (Is (.agg #[y0, y1])))))] [] B2 a2 W2 := S2
  refine wp_ret ?_
  exact end_one S2 rfl (res_cell S2 1 2 rfl strct_rat (shp_pr shp_zn (shp_cells hc)))

theorem g_minus {A : Int} {k : Nat} (hk : k ≤ 67108864) : ∀ w u y0 y1, y0.oneCell' = true ∧ y1.oneCell' = true → PR (Zv A k) (Is (.agg #[y0, y1])) u w → Calls Tryz.prog 21 #[u] w (Gives (PRF (ZN (-A)) (IS (.agg #[y0, y1]))) w) := fun w u y0 y1 hc h => minus_w w A k u y0 y1 hc h hk

theorem eval_self {a : Act} {d : Tmp} {v : Value} (h : d < a.tmps.size) : (a.put (some d) v).eval (.tmp d) = v := by simp [Act.eval, Act.put, h]
theorem eval_far {a : Act} {d t : Tmp} {v : Value} (h : t ≠ d) : (a.put (some d) v).eval (.tmp t) = a.eval (.tmp t) := Act.eval_put (fun d' hd' e => by
  cases hd'
  simp at e
  first | exact h e | exact h e.symm)
theorem Sta.drop1 {w0 W : World} {n : Nat} {bx : Bxs} {x : Tmp × Pr} {sl : List (Tmp × Pr)} {B : Nat → Prop} {a : Act} (S : Sta w0 n bx (x :: sl) B a W) : Sta w0 n bx sl B a W := ⟨S.ent, S.bnd, S.siz, S.dfr, S.box, S.sep, fun y hy => S.slt y (List.mem_cons_of_mem _ hy)⟩

theorem rx_has {g : Nat} {x0 x1 y0 y1 z0 z1 u0 u1 : Value} {A D N M : Int} {k1 k2 k3 k4 : Nat} {w : World} {v : Value} (h : RX g x0 x1 y0 y1 z0 z1 u0 u1 (Zv A k1) (Zv D k2) (Zv N k3) (Zv M k4) v w) : Has (fun _ => False) w (RX g x0 x1 y0 y1 z0 z1 u0 u1 (Zv A k1) (Zv D k2) (Zv N k3) (Zv M k4)) v := fun w' e =>
  ⟨h.1, (e.block g (Array.getElem?_eq_some_iff.1 h.2.1).1 (fun x => x)).trans h.2.1, zv_has h.2.2.1 w' e, zv_has h.2.2.2.1 w' e, zv_has h.2.2.2.2.1 w' e, zv_has h.2.2.2.2.2 w' e⟩

set_option maxHeartbeats 1000000 in
theorem sum_w (w : World) (g : Nat) (x0 x1 y0 y1 z0 z1 u0 u1 : Value) (A N : Int) (D M k1 k2 k3 k4 : Nat) (h : RX g x0 x1 y0 y1 z0 z1 u0 u1 (Zv A k1) (Zv (D : Int) k2) (Zv N k3) (Zv (M : Int) k4) (.slice (some ⟨g, 0, none⟩) 2 2) w) (hk1 : k1 ≤ 8388608) (hk2 : k2 ≤ 8388608) (hk3 : k3 ≤ 8388608) (hk4 : k4 ≤ 8388608) (hD : D ≠ 0) (hM : M ≠ 0) (hDM : D * M ≠ 0) (hmay : (decide (0 < (D : Int).sign) && decide (0 < (M : Int).sign)) = true) (dAM : (digs (A * (M : Int)).natAbs).length ≤ k1 + k4) (dND : (digs (N * (D : Int)).natAbs).length ≤ k3 + k2) (dS : (digs (A * (M : Int) + N * (D : Int)).natAbs).length ≤ 33554433) (dDM : (digs ((D * M : Nat) : Int).natAbs).length ≤ 33554432) :
    Calls Tryz.prog 20 #[.slice (some ⟨g, 0, none⟩) 2 2] w (Gives (TWO (RN (nR (A * (M : Int) + N * (D : Int)) (D * M)) (dR (A * (M : Int) + N * (D : Int)) (D * M))) (IS (.int .i64 0))) w) := by
  refine calls_sta (sl := [(0, (RX g x0 x1 y0 y1 z0 z1 u0 u1 (Zv A k1) (Zv (D : Int) k2) (Zv N k3) (Zv (M : Int) k4)))]) Tryz.func20 rfl Tryz.ntmps20 (by simp) (args_cons rfl (rx_has h) args_nil) ?_
  intro a0 S0
  refine wp_stmt_seq [.new (.box 26 (Is (.agg #[.bool false, .slice none 0 0, .bool false, .slice none 0 0]))),
      .val (Is (.int .i64 0))] [.inl 0] [.inl 1, .inr 0] follows S0 rfl (by kernel_rfl) ?_ ?_
  · refine ⟨⟨trivial, ?_⟩, ?_⟩
    · exact owe_new rfl (wants_all rfl) rfl rfl (fun ρ w => alloc_rat ρ _ w)
    · exact owe_move rfl (wants_all rfl) (Or.inr rfl) (opnd_const _) rfl
  intro B1 a1 W1 S1
  replace S1 : Sta w 25 [(2, (.box 26 (Is (.agg #[.bool false, .slice none 0 0, .bool false, .slice none 0 0]))))] [(3, (Is (.int .i64 0))), (0, (RX g x0 x1 y0 y1 z0 z1 u0 u1 (Zv A k1) (Zv (D : Int) k2) (Zv N k3) (Zv (M : Int) k4)))] B1 a1 W1 := S1
  refine wp_seq ?_
  refine wp_stmt_seq [.val (RX g x0 x1 y0 y1 z0 z1 u0 u1 (Zv A k1) (Zv (D : Int) k2) (Zv N k3) (Zv (M : Int) k4)),
      .val (Is (.bool true)),
      .val (Is (.bool false))] [.inr 0] [.inl 2, .inr 0, .inr 1] follows S1 rfl (by kernel_rfl) ?_ ?_
  · refine ⟨⟨⟨trivial, ?_⟩, ?_⟩, ?_⟩
    · exact owe_move rfl (wants_all rfl) (Or.inl rfl) (opnd_slot 1 0 rfl (by kernel_rfl)) rfl
    · exact owe_call1 rfl (wants_all rfl) rfl (opnd_op 0 6 (by kernel_rfl) rfl) (fresh_is _) rfl (fun args w => by go_simp) (fun w u0 h0 => Gives.cast ((fun w u h1 => g_maybe2 (by omega) (by omega) w u (rx_rl2 _ _ h1)) w u0 h0) (by rw [hmay]))
    · exact owe_un (x := .tmp 7) rfl (wants_all rfl) rfl (opnd_op 1 7 (by kernel_rfl) rfl) rfl (fun ρ w h1 => run_not ρ _ _ w _ h1)
  intro B2 a2 W2 S2
  replace S2 : Sta w 25 [(2, (.box 26 (Is (.agg #[.bool false, .slice none 0 0, .bool false, .slice none 0 0]))))] [(8, (Is (.bool false))), (3, (Is (.int .i64 0))), (0, (RX g x0 x1 y0 y1 z0 z1 u0 u1 (Zv A k1) (Zv (D : Int) k2) (Zv N k3) (Zv (M : Int) k4)))] B2 a2 W2 := S2
  refine wp_cond_false (S2.bool 0 8 rfl) ?_
  refine wp_skip ?_
  refine thenN ?_
  refine wp_stmt_seq [.val (RX g x0 x1 y0 y1 z0 z1 u0 u1 (Zv A k1) (Zv (D : Int) k2) (Zv N k3) (Zv (M : Int) k4)),
      .val (Is (.pointer (some ⟨g, 0, none⟩))),
      .val (Is (.pointer (some ⟨g, 0, none⟩))),
      .val (Zv A k1),
      .val (RX g x0 x1 y0 y1 z0 z1 u0 u1 (Zv A k1) (Zv (D : Int) k2) (Zv N k3) (Zv (M : Int) k4)),
      .val (Is (.pointer (some ⟨g, 0, none⟩))),
      .val (Is (.pointer (some ⟨g, 2, none⟩))),
      .val (Zv ((D : Int)) k2),
      .new (.box 24 (Is (.agg #[.bool false, .slice none 0 0]))),
      .new (.box 24 (Is (.agg #[.bool false, .slice none 0 0]))),
      .put (.inr 8) (.box 24 (Zv A k1)),
      .put (.inr 9) (.box 24 (Zv ((D : Int)) k2))] [.inr 0, .inl 8, .inl 9] [.inr 0, .inr 1, .inr 2] follows S2 rfl (by kernel_rfl) ?_ ?_
  · refine ⟨⟨⟨⟨⟨⟨⟨⟨⟨⟨⟨⟨trivial, ?_⟩, ?_⟩, ?_⟩, ?_⟩, ?_⟩, ?_⟩, ?_⟩, ?_⟩, ?_⟩, ?_⟩, ?_⟩, ?_⟩
    · exact owe_move rfl (wants_all rfl) (Or.inl rfl) (opnd_slot 2 0 rfl (by kernel_rfl)) rfl
    · exact owe_rxat rfl (wants_all rfl) rfl (opnd_op 0 10 (by kernel_rfl) rfl) rfl
    · exact owe_un (x := .tmp 11) rfl (wants_all rfl) rfl (opnd_op 1 11 (by kernel_rfl) rfl) rfl (fun ρ w h1 => by exact part_rat0 ρ _ _ w g 0 h1)
    · exact owe_rxload rfl (wants_all rfl) rfl (opnd_op 2 12 (by kernel_rfl) rfl) (opnd_slot 2 0 rfl (by kernel_rfl)) (fun v w h => ⟨(cell_of h.2.1).trans rfl, (cell_of h.2.1).trans rfl, h.2.2.1⟩) rfl
    · exact owe_move rfl (wants_all rfl) (Or.inl rfl) (opnd_slot 2 0 rfl (by kernel_rfl)) rfl
    · exact owe_rxat rfl (wants_all rfl) rfl (opnd_op 4 14 (by kernel_rfl) rfl) rfl
    · exact owe_un (x := .tmp 15) rfl (wants_all rfl) rfl (opnd_op 5 15 (by kernel_rfl) rfl) rfl (fun ρ w h1 => by exact part_rat1 ρ _ _ w g 0 h1)
    · exact owe_rxload rfl (wants_all rfl) rfl (opnd_op 6 16 (by kernel_rfl) rfl) (opnd_slot 2 0 rfl (by kernel_rfl)) (fun v w h => ⟨(cell_of h.2.1).trans rfl, (cell_of h.2.1).trans rfl, h.2.2.2.1⟩) rfl
    · exact owe_new rfl (wants_all rfl) rfl rfl (fun ρ w => alloc_int ρ _ w)
    · exact owe_new rfl (wants_all rfl) rfl rfl (fun ρ w => alloc_int ρ _ w)
    · exact owe_put 8 rfl (wants_all rfl) rfl (by kernel_rfl) rfl (opnd_op 3 13 (by kernel_rfl) rfl) (stores_of strct_int shp_z0 shp_zv) rfl
    · exact owe_put 9 rfl (wants_all rfl) rfl (by kernel_rfl) rfl (opnd_op 7 17 (by kernel_rfl) rfl) (stores_of strct_int shp_z0 shp_zv) rfl
  intro B3 a3 W3 S3
  replace S3 : Sta w 25 [(2, (.box 26 (Is (.agg #[.bool false, .slice none 0 0, .bool false, .slice none 0 0])))), (4, (.box 24 (Zv A k1))), (5, (.box 24 (Zv ((D : Int)) k2)))] [(8, (Is (.bool false))), (3, (Is (.int .i64 0))), (0, (RX g x0 x1 y0 y1 z0 z1 u0 u1 (Zv A k1) (Zv (D : Int) k2) (Zv N k3) (Zv (M : Int) k4)))] B3 a3 W3 := S3
  refine wp_seq (wp_region_lit ?_)
  obtain ⟨c1, v1, p4, B4, q4, f4⟩ := S3.box _ (List.mem_of_getElem? (show ([(2, (.box 26 (Is (.agg #[.bool false, .slice none 0 0, .bool false, .slice none 0 0])))), (4, (.box 24 (Zv A k1))), (5, (.box 24 (Zv ((D : Int)) k2)))] : Bxs)[1]? = some _ from rfl))
  obtain ⟨c2, v2, p5, B5, q5, f5⟩ := S3.box _ (List.mem_of_getElem? (show ([(2, (.box 26 (Is (.agg #[.bool false, .slice none 0 0, .bool false, .slice none 0 0])))), (4, (.box 24 (Zv A k1))), (5, (.box 24 (Zv ((D : Int)) k2)))] : Bxs)[2]? = some _ from rfl))
  obtain ⟨er, hg, hA, hD2, hN, hM2⟩ := S3.slot 2 0 rfl
  have hne : c1 ≠ c2 := fun e => by have := S3.sep _ (List.mem_of_getElem? (show ([(2, (.box 26 (Is (.agg #[.bool false, .slice none 0 0, .bool false, .slice none 0 0])))), (4, (.box 24 (Zv A k1))), (5, (.box 24 (Zv ((D : Int)) k2)))] : Bxs)[1]? = some _ from rfl)) _ (List.mem_of_getElem? (show ([(2, (.box 26 (Is (.agg #[.bool false, .slice none 0 0, .bool false, .slice none 0 0])))), (4, (.box 24 (Zv A k1))), (5, (.box 24 (Zv ((D : Int)) k2)))] : Bxs)[2]? = some _ from rfl)) c1 (by show vblock (a3.eval (.tmp 4)) = _; rw [p4]; rfl) (by show vblock (a3.eval (.tmp 5)) = _; rw [p5, e]; rfl); exact absurd this (show ¬ (4 : Nat) = 5 by decide)
  refine wpl_val (W' := W3) (v := a3.eval (.tmp 0)) rfl rfl ?_
  refine wpl_val (W' := W3) (v := .slice (some ⟨g, 4, none⟩) 1 1) rfl (by have e0 : (a3.put (some 18) (a3.eval (.tmp 0))).eval (.tmp 18) = .slice (some ⟨g, 0, none⟩) 2 2 := (eval_self (by rw [S3.siz]; decide)).trans er; have e1 : (a3.put (some 18) (a3.eval (.tmp 0))).eval (.const (.int .i64 1)) = .int .i64 1 := rfl; unfold execOp; clear hA hD2 hN hM2 hg f4 f5; generalize (a3.put (some 18) (a3.eval (.tmp 0))).eval = ρ at e0 e1; go_simp) ?_
  obtain ⟨a, ea, T4, T5, T2, T0⟩ : ∃ a, ((a3.put (some 18) (a3.eval (.tmp 0))).put (some 19) (.slice (some ⟨g, 4, none⟩) 1 1)) = a ∧ a.eval (.tmp 4) = a3.eval (.tmp 4) ∧ a.eval (.tmp 5) = a3.eval (.tmp 5) ∧ a.eval (.tmp 19) = .slice (some ⟨g, 4, none⟩) 1 1 ∧ Sta w 25 [(2, (.box 26 (Is (.agg #[.bool false, .slice none 0 0, .bool false, .slice none 0 0])))), (4, (.box 24 (Zv A k1))), (5, (.box 24 (Zv ((D : Int)) k2)))] [(8, (Is (.bool false))), (3, (Is (.int .i64 0))), (0, (RX g x0 x1 y0 y1 z0 z1 u0 u1 (Zv A k1) (Zv (D : Int) k2) (Zv N k3) (Zv (M : Int) k4)))] B3 a W3 := ⟨_, rfl, (eval_far (by decide)).trans (eval_far (by decide)), (eval_far (by decide)).trans (eval_far (by decide)), eval_self (by rw [put_size, S3.siz]; decide), ((S3.put (d := 18) (φ := fun _ _ => True) (by decide) (fun _ _ => trivial) [(2, (.box 26 (Is (.agg #[.bool false, .slice none 0 0, .bool false, .slice none 0 0])))), (4, (.box 24 (Zv A k1))), (5, (.box 24 (Zv ((D : Int)) k2)))] [(8, (Is (.bool false))), (3, (Is (.int .i64 0))), (0, (RX g x0 x1 y0 y1 z0 z1 u0 u1 (Zv A k1) (Zv (D : Int) k2) (Zv N k3) (Zv (M : Int) k4)))] (by simp) (by simp)).put (d := 19) (φ := fun _ _ => True) (by decide) (fun _ _ => trivial) [(2, (.box 26 (Is (.agg #[.bool false, .slice none 0 0, .bool false, .slice none 0 0])))), (4, (.box 24 (Zv A k1))), (5, (.box 24 (Zv ((D : Int)) k2)))] [(8, (Is (.bool false))), (3, (Is (.int .i64 0))), (0, (RX g x0 x1 y0 y1 z0 z1 u0 u1 (Zv A k1) (Zv (D : Int) k2) (Zv N k3) (Zv (M : Int) k4)))] (by simp) (by simp)).drop1⟩
  rw [show (a3.put (some 18) (a3.eval (.tmp 0))).put _ (.slice (some ⟨g, 4, none⟩) 1 1) = a from ea]
  rw [p4] at T4
  rw [p5] at T5
  refine wpl_val (W' := W3) (v := .func (.func 40) #[] #[.pointer (some ⟨c1, 0, none⟩), .pointer (some ⟨c2, 0, none⟩)]) rfl (by unfold execOp; clear hA hD2 hN hM2 hg f4 f5 T0 ea; generalize a.eval = ρ at T4 T5; go_simp) ?_
  obtain ⟨a', ea', U2, U0, UT⟩ : ∃ a', (a.put (some 20) (.func (.func 40) #[] #[.pointer (some ⟨c1, 0, none⟩), .pointer (some ⟨c2, 0, none⟩)])) = a' ∧ a'.eval (.tmp 19) = .slice (some ⟨g, 4, none⟩) 1 1 ∧ a'.eval (.tmp 20) = .func (.func 40) #[] #[.pointer (some ⟨c1, 0, none⟩), .pointer (some ⟨c2, 0, none⟩)] ∧ (a'.eval (.tmp 4) = .pointer (some ⟨c1, 0, none⟩) ∧ a'.eval (.tmp 5) = .pointer (some ⟨c2, 0, none⟩) ∧ Sta w 25 [(2, (.box 26 (Is (.agg #[.bool false, .slice none 0 0, .bool false, .slice none 0 0])))), (4, (.box 24 (Zv A k1))), (5, (.box 24 (Zv ((D : Int)) k2)))] [(8, (Is (.bool false))), (3, (Is (.int .i64 0))), (0, (RX g x0 x1 y0 y1 z0 z1 u0 u1 (Zv A k1) (Zv (D : Int) k2) (Zv N k3) (Zv (M : Int) k4)))] B3 a' W3) := ⟨_, rfl, (eval_far (by decide)).trans T2, eval_self (by rw [T0.siz]; decide), (eval_far (by decide)).trans T4, (eval_far (by decide)).trans T5, (T0.put (d := 20) (φ := fun _ _ => True) (by decide) (fun _ _ => trivial) [(2, (.box 26 (Is (.agg #[.bool false, .slice none 0 0, .bool false, .slice none 0 0])))), (4, (.box 24 (Zv A k1))), (5, (.box 24 (Zv ((D : Int)) k2)))] [(8, (Is (.bool false))), (3, (Is (.int .i64 0))), (0, (RX g x0 x1 y0 y1 z0 z1 u0 u1 (Zv A k1) (Zv (D : Int) k2) (Zv N k3) (Zv (M : Int) k4)))] (by simp) (by simp)).drop1⟩
  rw [show a.put _ (.func (.func 40) #[] #[.pointer (some ⟨c1, 0, none⟩), .pointer (some ⟨c2, 0, none⟩)]) = a' from ea']
  obtain ⟨V4, V5, S4⟩ := UT
  obtain ⟨s2, p2, n2, d2, t2, q2, m2, o2, ez0, ez1, eu0, eu1⟩ := rv4_cells hN hM2
  have hg2 := hg
  rw [ez0, ez1, eu0, eu1] at hg2
  refine wpl_call (f := 39) (args := #[.slice (some ⟨g, 4, none⟩) 1 1, .func (.func 40) #[] #[.pointer (some ⟨c1, 0, none⟩), .pointer (some ⟨c2, 0, none⟩)]]) rfl (by have hf : a'.eval (.func 39) = .func (.func 39) #[] #[] := rfl; unfold execOp; clear hA hD2 hN hM2 hg f4 f5 T0 ea ea' S4; generalize a'.eval = ρ at U2 U0 hf; go_simp) ?_
  have hb := S3.bnd
  have bc1 := hb c1 B4
  have bc2 := hb c2 B5
  have mm : ∀ j, (j = c1 ∨ j = c2) → B3 j := fun j hj => by rcases hj with rfl | rfl; exact B4; exact B5
  have SC : Hid (∀ W', Below W3.heap.size W3 W' → Calls Tryz.prog 40 #[.agg #[.bool s2, .slice p2 n2 d2, .bool t2, .slice q2 m2 o2], .pointer (some ⟨c1, 0, none⟩), .pointer (some ⟨c2, 0, none⟩)] W' fun e W'' => e = .returned (.tuple #[]) ∧ Hid (Ev (fun k => k = c1 ∨ k = c2) W' W'' ∧ ∃ v1 v2 : Value, W''.heap[c1]? = some (.cells v1.cells 24 (0, 0)) ∧ ZN (A * (M : Int) + N * (D : Int)) W'.heap.size v1 W'' ∧ W''.heap[c2]? = some (.cells v2.cells 24 (0, 0)) ∧ ZN ((D : Int) * (M : Int)) W'.heap.size v2 W'')) := fun W' hW => by
    have evW : Ev B3 W3 W' := Ev.of_below hW
    have up : ∀ {φ : Pr} {v : Value}, Has B3 W3 φ v → Has (fun k => k = c1 ∨ k = c2) W' φ v := fun h => fun w'' e'' => h w'' (evW.back (fun k _ hk => mm k hk) e'')
    refine (sumclo_w W' (cutW W' (min c1 c2)) c1 c2 A (D : Int) N (M : Int) k1 k2 k3 k4 _ v1 v2 (below_cut (by have := hW.size; omega)) (fun j hj => by have := hW.size; rw [cutW_size (by omega)]; rcases hj with rfl | rfl <;> omega) hne ((hW.block _ bc1.2).trans q4) ((hW.block _ bc2.2).trans q5) (up f4) (up f5) (by rw [← ez0, ← ez1, ← eu0, ← eu1]; exact up (fun w'' e'' => (⟨_, _, _, _, rfl, (S3.slt _ (List.mem_of_getElem? (show ([(8, (Is (.bool false))), (3, (Is (.int .i64 0))), (0, (RX g x0 x1 y0 y1 z0 z1 u0 u1 (Zv A k1) (Zv (D : Int) k2) (Zv N k3) (Zv (M : Int) k4)))] : List (Tmp × Pr))[2]? = some _ from rfl)) w'' e'').2.2.2.2.1, (S3.slt _ (List.mem_of_getElem? (show ([(8, (Is (.bool false))), (3, (Is (.int .i64 0))), (0, (RX g x0 x1 y0 y1 z0 z1 u0 u1 (Zv A k1) (Zv (D : Int) k2) (Zv N k3) (Zv (M : Int) k4)))] : List (Tmp × Pr))[2]? = some _ from rfl)) w'' e'').2.2.2.2.2⟩ : PR (Zv N k3) (Zv (M : Int) k4) _ w''))) dAM dND (by omega) (by omega) (by omega) (by omega)).mono ?_
    rintro e W'' ⟨rfl, he, x1, x2, y1, y2, y3, y4⟩
    exact ⟨rfl, he, x1, x2, y1, y2, y3, y4⟩
  refine (fold_c W3 g c1 c2 x0 x1 y0 y1 s2 t2 p2 q2 n2 d2 m2 o2 hg2 _ SC).mono ?_
  rintro e W' ⟨rfl, W1, hW1, he, x1', x2', y1', y2', y3', y4'⟩
  refine ⟨_, rfl, ?_⟩
  have eA : Ev (fun k => k = c1 ∨ k = c2) W3 W' := ⟨he.os.trans hW1.os, he.tape.trans hW1.tape, he.output.trans hW1.output, Nat.le_trans hW1.size he.size, fun j hj hn => (he.block j (Nat.lt_of_lt_of_le hj hW1.size) hn).trans (hW1.block j hj)⟩
  have lowW : w.heap.size ≤ W1.heap.size := Nat.le_trans S3.ent.size hW1.size
  have fz : ∀ {ψ : Nat → Pr} {v : Value}, Fresh ψ → ψ W1.heap.size v W' → Has B3 W' (ψ w.heap.size) v := fun hF h w'' e'' => hF.mono _ _ _ _ lowW (hF.ev _ _ _ _ B3 (fun j hj => Nat.lt_of_lt_of_le (hb j hj).2 hW1.size) h e'')
  rw [show ((D : Int) * (M : Int)) = ((D * M : Nat) : Int) from by rw [Int.natCast_mul]] at y4'
  have S5 := S4.turn (bx' := [(2, (.box 26 (Is (.agg #[.bool false, .slice none 0 0, .bool false, .slice none 0 0])))), (4, (.box 24 ((ZN (A * (M : Int) + N * (D : Int))) w.heap.size))), (5, (.box 24 ((ZN (((D * M : Nat) : Int))) w.heap.size)))]) eA mm (by
    intro x hx
    simp only [List.mem_cons, List.not_mem_nil, or_false] at hx
    rcases hx with rfl | rfl | rfl
    · exact ⟨⟨_, List.mem_of_getElem? (show _[0]? = some _ from rfl)⟩, S4.still eA mm (List.mem_of_getElem? (show _[0]? = some _ from rfl)) (fun b hb2 hs => by rcases hs with rfl | rfl; exact absurd (S4.sep _ (List.mem_of_getElem? (show _[0]? = some _ from rfl)) _ (List.mem_of_getElem? (show _[1]? = some _ from rfl)) _ hb2 (by show vblock (a'.eval (.tmp 4)) = _; rw [V4]; rfl)) (show ¬ (2 : Nat) = 4 by decide); exact absurd (S4.sep _ (List.mem_of_getElem? (show _[0]? = some _ from rfl)) _ (List.mem_of_getElem? (show _[2]? = some _ from rfl)) _ hb2 (by show vblock (a'.eval (.tmp 5)) = _; rw [V5]; rfl)) (show ¬ (2 : Nat) = 5 by decide))⟩
    · exact ⟨⟨_, List.mem_of_getElem? (show _[1]? = some _ from rfl)⟩, c1, x1', V4, B4, y1', fz (fresh_zn _) y2'⟩
    · exact ⟨⟨_, List.mem_of_getElem? (show _[2]? = some _ from rfl)⟩, c2, x2', V5, B5, y3', fz (fresh_zn _) y4'⟩
  )
  replace S5 := (S5.put (d := 21) (v := .tuple #[]) (φ := fun _ _ => True) (by decide) (fun _ _ => trivial) [(2, (.box 26 (Is (.agg #[.bool false, .slice none 0 0, .bool false, .slice none 0 0])))), (4, (.box 24 ((ZN (A * (M : Int) + N * (D : Int))) w.heap.size))), (5, (.box 24 ((ZN (((D * M : Nat) : Int))) w.heap.size)))] [(8, (Is (.bool false))), (3, (Is (.int .i64 0))), (0, (RX g x0 x1 y0 y1 z0 z1 u0 u1 (Zv A k1) (Zv (D : Int) k2) (Zv N k3) (Zv (M : Int) k4)))] (by simp) (by simp)).drop1
  refine wpList_nil (thenN ?_)
  obtain ⟨a5, W5, B5, e1, e2, e3⟩ : ∃ a W B, a'.put (some 21) (.tuple #[]) = a ∧ W' = W ∧ B3 = B := ⟨_, _, _, rfl, rfl, rfl⟩
  rw [show a'.put _ (.tuple #[]) = a5 from e1, e2]
  rw [e1, e2, e3] at S5
  replace S5 : Sta w 25 [(2, (.box 26 (Is (.agg #[.bool false, .slice none 0 0, .bool false, .slice none 0 0])))), (4, (.box 24 ((ZN (A * (M : Int) + N * (D : Int))) w.heap.size))), (5, (.box 24 ((ZN (((D * M : Nat) : Int))) w.heap.size)))] [(8, (Is (.bool false))), (3, (Is (.int .i64 0))), (0, (RX g x0 x1 y0 y1 z0 z1 u0 u1 (Zv A k1) (Zv (D : Int) k2) (Zv N k3) (Zv (M : Int) k4)))] B5 a5 W5 := S5
  refine wp_stmt_seq [.val ((ZN (A * (M : Int) + N * (D : Int))) w.heap.size),
      .val ((ZN (((D * M : Nat) : Int))) w.heap.size),
      .val ((RN (nR (A * (M : Int) + N * (D : Int)) (D * M)) (dR (A * (M : Int) + N * (D : Int)) (D * M))) w.heap.size),
      .put (.inl 2) (.box 26 ((RN (nR (A * (M : Int) + N * (D : Int)) (D * M)) (dR (A * (M : Int) + N * (D : Int)) (D * M))) w.heap.size)),
      .val (Is (.int .i64 0))] [.inr 0, .inr 1, .inr 2] [.inl 4, .inr 0, .inr 2] follows S5 rfl (by kernel_rfl) ?_ ?_
  · refine ⟨⟨⟨⟨⟨trivial, ?_⟩, ?_⟩, ?_⟩, ?_⟩, ?_⟩
    · exact owe_load rfl (wants_all rfl) rfl (k := 1) rfl (by kernel_rfl) (loads_of strct_int shp_zn) rfl
    · exact owe_load rfl (wants_all rfl) rfl (k := 2) rfl (by kernel_rfl) (loads_of strct_int shp_zn) rfl
    · exact owe_call2 rfl (wants_all rfl) rfl (opnd_op 0 22 (by kernel_rfl) rfl) (opnd_op 1 23 (by kernel_rfl) rfl) (fresh_rn _ _) rfl (fun args w => by go_simp) (fun w u v h1 h2 => g_lowest hDM (by omega) (by omega) w u v ((zn_zv dS) _ _ h1) ((zn_zv dDM) _ _ h2))
    · exact owe_set rfl (wants_all rfl) rfl (k := 0) rfl (by kernel_rfl) (opnd_op 2 24 (by kernel_rfl) rfl) (stores_of strct_rat shp_r0 (shp_pr shp_zn shp_zn)) rfl
    · exact owe_move rfl (wants_all rfl) (Or.inr rfl) (opnd_const _) rfl
  intro B6 a6 W6 S6
  replace S6 : Sta w 25 [(2, (.box 26 ((RN (nR (A * (M : Int) + N * (D : Int)) (D * M)) (dR (A * (M : Int) + N * (D : Int)) (D * M))) w.heap.size))), (4, (.box 24 ((ZN (A * (M : Int) + N * (D : Int))) w.heap.size))), (5, (.box 24 ((ZN (((D * M : Nat) : Int))) w.heap.size)))] [(3, (Is (.int .i64 0))), (8, (Is (.bool false))), (0, (RX g x0 x1 y0 y1 z0 z1 u0 u1 (Zv A k1) (Zv (D : Int) k2) (Zv N k3) (Zv (M : Int) k4)))] B6 a6 W6 := S6
  refine wp_ret ?_
  exact end_two S6 rfl (res_cell S6 0 2 rfl strct_rat (shp_pr shp_zn shp_zn)) (res_tmp S6 0 3 rfl)

set_option maxHeartbeats 400000 in
theorem sum_bad (w : World) (g : Nat) (x0 x1 y0 y1 z0 z1 u0 u1 : Value) (A N D M : Int) (k1 k2 k3 k4 : Nat) (h : RX g x0 x1 y0 y1 z0 z1 u0 u1 (Zv A k1) (Zv D k2) (Zv N k3) (Zv M k4) (.slice (some ⟨g, 0, none⟩) 2 2) w) (hk1 : k1 ≤ 8388608) (hk2 : k2 ≤ 8388608) (hk3 : k3 ≤ 8388608) (hk4 : k4 ≤ 8388608) (hmay : (decide (0 < D.sign) && decide (0 < M.sign)) = false) :
    Calls Tryz.prog 20 #[.slice (some ⟨g, 0, none⟩) 2 2] w (Gives (TWO (IS (.agg #[.bool false, .slice none 0 0, .bool false, .slice none 0 0])) (IS (.int .i64 30))) w) := by
  refine calls_sta (sl := [(0, (RX g x0 x1 y0 y1 z0 z1 u0 u1 (Zv A k1) (Zv D k2) (Zv N k3) (Zv M k4)))]) Tryz.func20 rfl Tryz.ntmps20 (by simp) (args_cons rfl (rx_has h) args_nil) ?_
  intro a0 S0
  refine wp_stmt_seq [.new (.box 26 (Is (.agg #[.bool false, .slice none 0 0, .bool false, .slice none 0 0]))),
      .val (Is (.int .i64 0))] [.inl 0] [.inl 1, .inr 0] follows S0 rfl (by kernel_rfl) ?_ ?_
  · refine ⟨⟨trivial, ?_⟩, ?_⟩
    · exact owe_new rfl (wants_all rfl) rfl rfl (fun ρ w => alloc_rat ρ _ w)
    · exact owe_move rfl (wants_all rfl) (Or.inr rfl) (opnd_const _) rfl
  intro B1 a1 W1 S1
  replace S1 : Sta w 25 [(2, (.box 26 (Is (.agg #[.bool false, .slice none 0 0, .bool false, .slice none 0 0]))))] [(3, (Is (.int .i64 0))), (0, (RX g x0 x1 y0 y1 z0 z1 u0 u1 (Zv A k1) (Zv D k2) (Zv N k3) (Zv M k4)))] B1 a1 W1 := S1
  refine wp_seq ?_
  refine wp_stmt_seq [.val (RX g x0 x1 y0 y1 z0 z1 u0 u1 (Zv A k1) (Zv D k2) (Zv N k3) (Zv M k4)),
      .val (Is (.bool false)),
      .val (Is (.bool true))] [.inr 0] [.inl 2, .inr 0, .inr 1] follows S1 rfl (by kernel_rfl) ?_ ?_
  · refine ⟨⟨⟨trivial, ?_⟩, ?_⟩, ?_⟩
    · exact owe_move rfl (wants_all rfl) (Or.inl rfl) (opnd_slot 1 0 rfl (by kernel_rfl)) rfl
    · exact owe_call1 rfl (wants_all rfl) rfl (opnd_op 0 6 (by kernel_rfl) rfl) (fresh_is _) rfl (fun args w => by go_simp) (fun w u0 h0 => Gives.cast ((fun w u h1 => g_maybe2 (by omega) (by omega) w u (rx_rl2 _ _ h1)) w u0 h0) (by rw [hmay]))
    · exact owe_un (x := .tmp 7) rfl (wants_all rfl) rfl (opnd_op 1 7 (by kernel_rfl) rfl) rfl (fun ρ w h1 => run_not ρ _ _ w _ h1)
  intro B2 a2 W2 S2
  replace S2 : Sta w 25 [(2, (.box 26 (Is (.agg #[.bool false, .slice none 0 0, .bool false, .slice none 0 0]))))] [(8, (Is (.bool true))), (3, (Is (.int .i64 0))), (0, (RX g x0 x1 y0 y1 z0 z1 u0 u1 (Zv A k1) (Zv D k2) (Zv N k3) (Zv M k4)))] B2 a2 W2 := S2
  refine wp_cond_true (S2.bool 0 8 rfl) ?_
  refine wp_stmt_seq [.val (Is (.agg #[.bool false, .slice none 0 0, .bool false, .slice none 0 0])),
      .put (.inl 2) (.box 26 (Is (.agg #[.bool false, .slice none 0 0, .bool false, .slice none 0 0]))),
      .val (Is (.int .i64 30))] [.inr 0] [.inl 2, .inr 0, .inr 2] follows S2 rfl (by kernel_rfl) ?_ ?_
  · refine ⟨⟨⟨trivial, ?_⟩, ?_⟩, ?_⟩
    · exact owe_build_rat rfl (wants_all rfl) rfl rfl
    · exact owe_set rfl (wants_all rfl) rfl (k := 0) rfl (by kernel_rfl) (opnd_op 0 9 (by kernel_rfl) rfl) (stores_of strct_rat shp_r0 shp_r0) rfl
    · exact owe_move rfl (wants_all rfl) (Or.inr rfl) (opnd_const _) rfl
  intro B3 a3 W3 S3
  replace S3 : Sta w 25 [(2, (.box 26 (Is (.agg #[.bool false, .slice none 0 0, .bool false, .slice none 0 0]))))] [(3, (Is (.int .i64 30))), (8, (Is (.bool true))), (0, (RX g x0 x1 y0 y1 z0 z1 u0 u1 (Zv A k1) (Zv D k2) (Zv N k3) (Zv M k4)))] B3 a3 W3 := S3
  refine wp_ret ?_
  refine thenR ?_
  exact end_two S3 rfl (res_cell S3 0 2 rfl strct_rat shp_r0) (res_tmp S3 0 3 rfl)


theorem pos_sign {D : Nat} (h : D ≠ 0) : (D : Int).sign = 1 := Int.sign_eq_one_of_pos (by omega)
theorem zvn_len {A : Int} {k : Nat} {u : Value} {w : World} (h : Zv A k u w) : (digs A.natAbs).length ≤ k := by
  obtain ⟨s, p, n, c, xs, rfl, hs, rfl, hn⟩ := h
  exact Nat.le_trans (sg_dl hs) hn
/-- The sum of two rationals. -/
def adN (A N : Int) (D M : Nat) : Int := A * (M : Int) + N * (D : Int)
theorem g_sum {A N : Int} {D M k1 k2 k3 k4 lo : Nat} (hD : D ≠ 0) (hM : M ≠ 0) (hk1 : k1 ≤ 8388608) (hk2 : k2 ≤ 8388608) (hk3 : k3 ≤ 8388608) (hk4 : k4 ≤ 8388608) : ∀ w u, RL2 (Rv A (D : Int) k1 k2) (Rv N (M : Int) k3 k4) lo u w → Calls Tryz.prog 20 #[u] w (Gives (TWO (RN (nR (adN A N D M) (D * M)) (dR (adN A N D M) (D * M))) (IS (.int .i64 0))) w) := by
  rintro w u ⟨g, x0, x1, y0, y1, z0, z1, u0, u1, rfl, _, hg, ⟨a0, a1, b0, b1, e, hA, hD'⟩, ⟨a2, a3, b2, b3, e', hN, hM'⟩⟩
  simp at e e'
  obtain ⟨rfl, rfl, rfl, rfl⟩ := e
  obtain ⟨rfl, rfl, rfl, rfl⟩ := e'
  have lA := zvn_len hA
  have lD := zvn_len hD'
  have lN := zvn_len hN
  have lM := zvn_len hM'
  have dAM := dl_mul lA lM
  have dND := dl_mul lN lD
  have dDM := dl_mul lD lM
  rw [← Int.natCast_mul] at dDM
  exact sum_w w g _ _ _ _ _ _ _ _ A N D M k1 k2 k3 k4 ⟨rfl, hg, hA, hD', hN, hM'⟩ hk1 hk2 hk3 hk4 hD hM (Nat.mul_ne_zero hD hM) (by rw [pos_sign hD, pos_sign hM]; rfl) dAM dND (dl_add (k := 33554432) (by omega) (by omega)) (by omega)
theorem g_sum_bad {A N D M : Int} {k1 k2 k3 k4 lo : Nat} (hmay : (decide (0 < D.sign) && decide (0 < M.sign)) = false) (hk1 : k1 ≤ 8388608) (hk2 : k2 ≤ 8388608) (hk3 : k3 ≤ 8388608) (hk4 : k4 ≤ 8388608) : ∀ w u, RL2 (Rv A D k1 k2) (Rv N M k3 k4) lo u w → Calls Tryz.prog 20 #[u] w (Gives (TWO (IS (.agg #[.bool false, .slice none 0 0, .bool false, .slice none 0 0])) (IS (.int .i64 30))) w) := by
  rintro w u ⟨g, x0, x1, y0, y1, z0, z1, u0, u1, rfl, _, hg, ⟨a0, a1, b0, b1, e, hA, hD'⟩, ⟨a2, a3, b2, b3, e', hN, hM'⟩⟩
  simp at e e'
  obtain ⟨rfl, rfl, rfl, rfl⟩ := e
  obtain ⟨rfl, rfl, rfl, rfl⟩ := e'
  exact sum_bad w g _ _ _ _ _ _ _ _ A N D M k1 k2 k3 k4 ⟨rfl, hg, hA, hD', hN, hM'⟩ hk1 hk2 hk3 hk4 hmay

end Go.Proofs.YteamecapeghnoaaGreatDoor
