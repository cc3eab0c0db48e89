import Derived.Test.YtblmlhhicpomkaaDoorStruct
import Derived.Test.YtblmlhhicpomkaaDoorTurn
import Derived.Test.YtblmlhhicpomkaaDoorConts
import Derived.Test.YtblmlhhicpomkaaDoorShares
import Derived.Test.YtblmlhhicpomkaaDoorBezMath
/-
  Euclid's row for Bezout: euclid's functions and zint.row in the logic's form.
-/
namespace Go.Proofs.YtblmlhhicpomkaaDoor
open Go Go.RowKit Nt
set_option linter.unusedSimpArgs false
set_option linter.unusedVariables false

/-- Just this slice, in one form worth A. -/
def NE (u : Value) (A : Nat) : Pr := fun v w => v = u ∧ NN A 0 v w
theorem ne_nn {u : Value} {A : Nat} : ∀ v w, NE u A v w → NN A 0 v w := fun v w h => h.2
theorem ne_nv {u : Value} {A k : Nat} (hk : (digs A).length ≤ k) : ∀ v w, NE u A v w → Nv A k v w := fun v w h => nn_nv hk v w h.2
theorem nn_zero {A lo : Nat} : ∀ v w, NN A lo v w → NN A 0 v w := fun v w ⟨r, c, e, h, _⟩ => ⟨r, c, e, h, fun _ _ _ => Nat.zero_le _⟩
theorem flat_nn {A lo : Nat} : ∀ v w, NN A lo v w → Flat v := fun v w ⟨r, c, e, _⟩ => .inl ⟨_, _, _, e⟩
theorem flat_ne {u : Value} {A : Nat} : ∀ v w, NE u A v w → Flat v := fun v w h => flat_nn v w h.2
theorem flat_bool {b : Bool} : ∀ v w, Is (.bool b) v w → Flat v := fun v w e => .inr (.inl ⟨b, e⟩)
theorem ne_len {u : Value} {A : Nat} : ∀ v w, NE u A v w → ∃ p c, v = .slice p (digs A).length c := fun v w ⟨_, r, c, e, _⟩ => ⟨r, c, e⟩

/-- What euclid.Look tells of A and b. -/
abbrev St := Nat × Nat × Nat × Nat × Bool
def lk (A b : Nat) : St := lookN (digs A) (digs b) (digs A).length
def stv (s : St) : Value := .agg #[.int .u64 (s.1 : Nat), .int .u64 (s.2.1 : Nat), .int .u64 (s.2.2.1 : Nat), .int .u64 (s.2.2.2.1 : Nat), .bool s.2.2.2.2]
def raA (A b : Nat) (s : St) : Nat := if s.2.2.2.2 then s.2.1 * b - s.1 * A else s.1 * A - s.2.1 * b
def raB (A b : Nat) (s : St) : Nat := if s.2.2.2.2 then s.2.2.1 * A - s.2.2.2.1 * b else s.2.2.2.1 * b - s.2.2.1 * A
def shX (X Y : Nat) (s : St) : Nat := s.1 * X + s.2.1 * Y
def shY (X Y : Nat) (s : St) : Nat := s.2.2.1 * X + s.2.2.2.1 * Y
/-- What is known of the steps. -/
structure Stp (A b : Nat) (s : St) : Prop where
  small : s.1 < 4294967296 ∧ s.2.1 < 4294967296 ∧ s.2.2.1 < 4294967296 ∧ s.2.2.2.1 < 4294967296
  good : s.2.1 ≠ 0 → Nt.Good A b s.1 s.2.1 s.2.2.1 s.2.2.2.1 s.2.2.2.2

/-- The steps, and what is known of them. -/
def SV (A b : Nat) (s : St) : Pr := fun v _ => v = stv s ∧ Stp A b s
def SVF (A b : Nat) (s : St) : Nat → Pr := fun _ => SV A b s
theorem fresh_sv (A b : Nat) (s : St) : Fresh (SVF A b s) := ⟨fun _ _ _ _ _ h => h, fun _ _ _ _ _ _ h _ => h⟩
theorem g_look {A b : Nat} (h3 : 3 ≤ (digs b).length) (hle : b ≤ A) (hs : (digs A).length ≤ 70368744177664) : ∀ w u v, NN A 0 u w → NN b 0 v w → Calls Tryd.prog 49 #[u, v] w (Gives (TWO (SVF A b (lk A b)) (IS (.bool (!decide ((lk A b).2.1 = 0))))) w) := by
  rintro w u v ⟨p, c, rfl, hu, _⟩ ⟨q, d, rfl, hv, _⟩
  have hmn : (digs b).length ≤ (digs A).length := digs_length_mono hle
  have htop : (digs A).getD ((digs A).length - 1) 0 ≠ 0 := (top_digs A).resolve_left (fun e => absurd (show (digs A).length = 0 from by rw [e]; rfl) (by omega))
  have := look_g w p q (digs A).length c (digs b).length d (digs A) (digs b) hu hv (by omega) hs htop hmn (by rw [val_digs, val_digs]; exact hle)
  rw [val_digs, val_digs] at this
  refine this.mono ?_
  rintro e w' ⟨U0, V0, U1, V1, odd, rfl, h1, h2, h4, h5⟩
  have e : lk A b = (U0, V0, U1, V1, odd) := h5.symm
  rw [e]
  exact ⟨_, rfl, h4, _, _, rfl, ⟨rfl, h1, h2⟩, rfl⟩
theorem g_rests {A b : Nat} {s : St} (h0 : s.2.1 ≠ 0) (hle : b ≤ A) (hs : (digs A).length ≤ 70368744177664) : ∀ w t u v, SV A b s t w → NN A 0 u w → NN b 0 v w → Calls Tryd.prog 50 #[t, u, v] w (Gives (TWO (NN (raA A b s)) (NN (raB A b s))) w) := by
  rintro w t u v ⟨rfl, hS⟩ ⟨p, c, rfl, hu, _⟩ ⟨q, d, rfl, hv, _⟩
  obtain ⟨U0, V0, U1, V1, odd⟩ := s
  obtain ⟨s1, s2, s3, s4⟩ := hS.small
  have := rests_g w p q (digs A).length c (digs b).length d (digs A) (digs b) U0 V0 U1 V1 odd hu hv hs (digs_length_mono hle) s1 s2 s3 s4 (by rw [val_digs, val_digs]; exact hS.good h0)
  rw [val_digs, val_digs] at this
  refine this.mono ?_
  rintro e w' ⟨a', b', r, r', k, k', rfl, h1, h2, h3, h4, h5, h6, h7, h8, h9, h10⟩
  have ea : raA A b (U0, V0, U1, V1, odd) = a' := by
    unfold raA
    rcases h7 with ⟨rfl, e1, e2⟩ | ⟨rfl, e1, e2⟩
    · simp only [if_true]; omega
    · simp only [Bool.false_eq_true, if_false]; omega
  have eb : raB A b (U0, V0, U1, V1, odd) = b' := by
    unfold raB
    rcases h7 with ⟨rfl, e1, e2⟩ | ⟨rfl, e1, e2⟩
    · simp only [if_true]; omega
    · simp only [Bool.false_eq_true, if_false]; omega
  rw [ea, eb]
  exact ⟨_, rfl, h3, _, _, rfl, ⟨r, k, rfl, h1, h9⟩, r', k', rfl, h2, h10⟩
theorem g_shares {A b X Y : Nat} {s : St} (hx : (digs X).length + 2 ≤ 70368744177664) (hy : (digs Y).length + 2 ≤ 70368744177664) : ∀ w t u v, SV A b s t w → NN X 0 u w → NN Y 0 v w → Calls Tryd.prog 51 #[t, u, v] w (Gives (TWO (NN (shX X Y s)) (NN (shY X Y s))) w) := by
  rintro w t u v ⟨rfl, hS⟩ ⟨p, c, rfl, hu, _⟩ ⟨q, d, rfl, hv, _⟩
  obtain ⟨U0, V0, U1, V1, odd⟩ := s
  obtain ⟨s1, s2, s3, s4⟩ := hS.small
  have := shares_c w p q (digs X).length c (digs Y).length d (digs X) (digs Y) U0 V0 U1 V1 odd hu hv hx hy s1 s2 s3 s4 (shX X Y (U0, V0, U1, V1, odd)) (shY X Y (U0, V0, U1, V1, odd)) (by rw [val_digs, val_digs]; rfl) (by rw [val_digs, val_digs]; rfl)
  refine this.mono ?_
  rintro e w' ⟨r, r', k, k', rfl, h1, h2, h3, h9, h10⟩
  exact ⟨_, rfl, h3, _, _, rfl, ⟨r, k, rfl, h1, h9⟩, r', k', rfl, h2, h10⟩

/-! The struct of the steps, in its box. -/
theorem strct_steps : Strct 75 5 := ⟨⟨_, Tryd.underlying75, rfl⟩, by kernel_rfl⟩
theorem shp_sv {A b : Nat} {s : St} : Shp 5 (SV A b s) := fun u w e => ⟨_, e.1, rfl, by simp [Value.oneCell']⟩
theorem shp_s0 : Shp 5 (Is (.agg #[.int .u64 0, .int .u64 0, .int .u64 0, .int .u64 0, .bool false])) := fun u w e => ⟨_, e, rfl, by simp [Value.oneCell']⟩
theorem alloc_steps (ρ : Operand → Value) (o : Oper) (w : World) : (execOp ρ { o with op := .alloc 75 }).run Tryd.prog w = .ok (.value (.pointer (some ⟨w.heap.size, 0, none⟩))) (w.alloc (.cells (Value.agg #[.int .u64 0, .int .u64 0, .int .u64 0, .int .u64 0, .bool false]).cells 75 (0, 0))) := by
  unfold execOp
  go_simp
theorem part_steps4 (ρ : Operand → Value) (o : Oper) (x : Operand) (w : World) (b f : Nat) (h : ρ x = .pointer (some ⟨b, f, none⟩)) : (execOp ρ { o with op := .fieldAddr 75 x 4 }).run Tryd.prog w = .ok (.value (.pointer (some ⟨b, f + 4, none⟩))) w := by
  unfold execOp
  go_simp
theorem pload_odd {A b0 : Nat} {s : St} (ρ : Operand → Value) (o : Oper) (x : Operand) (w : World) (b : Nat) (u : Value) (hφ : SV A b0 s u w) (hx : ρ x = .pointer (some ⟨b, 4, none⟩)) (hb : w.heap[b]? = some (.cells u.cells 75 (0, 0))) :
    ∃ v, (execOp ρ { o with op := .load 4 x }).run Tryd.prog w = .ok (.value v) w ∧ ∀ w', SV A b0 s u w' → Is (.bool s.2.2.2.2) v w' := by
  have e : u = stv s := hφ.1
  clear hφ
  subst e
  have hc : w.cell? ⟨b, 4, none⟩ = some (.bool s.2.2.2.2) := sf_cell (cs := #[.int .u64 (s.1 : Nat), .int .u64 (s.2.1 : Nat), .int .u64 (s.2.2.1 : Nat), .int .u64 (s.2.2.2.1 : Nat), .bool s.2.2.2.2]) hb rfl
  exact ⟨_, load1_bool ρ w o x b 4 _ hx hc, fun _ _ => rfl⟩
/-! The row: its pointer. -/
theorem run_nilc (ρ : Operand → Value) (o : Oper) (x : Operand) (w : World) (g : Nat) (h : ρ x = .pointer (some ⟨g, 0, none⟩)) : (execOp ρ { o with op := .nilCheck x }).run Tryd.prog w = .ok (.value (.pointer (some ⟨g, 0, none⟩))) w := by
  unfold execOp
  go_simp
theorem part_row0 (ρ : Operand → Value) (o : Oper) (x : Operand) (w : World) (g : Nat) (h : ρ x = .pointer (some ⟨g, 0, none⟩)) : (execOp ρ { o with op := .fieldAddr 68 x 0 }).run Tryd.prog w = .ok (.value (.pointer (some ⟨g, 0, none⟩))) w := by
  unfold execOp
  go_simp
theorem part_row1 (ρ : Operand → Value) (o : Oper) (x : Operand) (w : World) (g : Nat) (h : ρ x = .pointer (some ⟨g, 0, none⟩)) : (execOp ρ { o with op := .fieldAddr 68 x 1 }).run Tryd.prog w = .ok (.value (.pointer (some ⟨g, 1, none⟩))) w := by
  unfold execOp
  go_simp
theorem part_row2 (ρ : Operand → Value) (o : Oper) (x : Operand) (w : World) (g : Nat) (h : ρ x = .pointer (some ⟨g, 0, none⟩)) : (execOp ρ { o with op := .fieldAddr 68 x 2 }).run Tryd.prog w = .ok (.value (.pointer (some ⟨g, 2, none⟩))) w := by
  unfold execOp
  go_simp
theorem part_row3 (ρ : Operand → Value) (o : Oper) (x : Operand) (w : World) (g : Nat) (h : ρ x = .pointer (some ⟨g, 0, none⟩)) : (execOp ρ { o with op := .fieldAddr 68 x 3 }).run Tryd.prog w = .ok (.value (.pointer (some ⟨g, 3, none⟩))) w := by
  unfold execOp
  go_simp
theorem part_row4 (ρ : Operand → Value) (o : Oper) (x : Operand) (w : World) (g : Nat) (h : ρ x = .pointer (some ⟨g, 0, none⟩)) : (execOp ρ { o with op := .fieldAddr 68 x 4 }).run Tryd.prog w = .ok (.value (.pointer (some ⟨g, 4, none⟩))) w := by
  unfold execOp
  go_simp
section
variable {ops : Array Oper} {l : List Kd} {bx : Bxs} {sl : List (Tmp × Pr)} {i : Nat} {o : Oper} {Q : Exit → Act → World → Prop} {a0 : Act} {n : Nat} {w0 : World}
theorem owe_call3K {ψ : Nat → Pr} {f : FuncId} {x y z : Operand} {ts : Array TypeId} {φ φ' φ'' : Pr} {w1 : World} {B1 : Nat → Prop} (ho : ops[i]? = some o) (hw : Wants ops l bx sl i o) (hop : o.op = .call { callee := .value (.func f), args := #[x, y, z], argTypes := ts }) (hx : Opnd ops l bx sl i x φ) (hy : Opnd ops l bx sl i y φ') (hz : Opnd ops l bx sl i z φ'') (hF : Fresh ψ) (hkp : Opnd ops l bx sl i (.tmp 0) (Keep B1 w1)) (hk : kdAt l i = .val (ψ w1.heap.size))
    (hcf : ∀ args w, (callFunc f args).run Tryd.prog w = .ok (.enter f args) w) (C : ∀ w u v t, φ u w → φ' v w → φ'' t w → Calls Tryd.prog f #[u, v, t] w (Gives ψ w)) : Owed Tryd.prog ops Q l bx sl a0 n w0 i :=
  owe_callK ho hw hop hF hkp hk hcf fun vs B a w c => by
    rw [show (#[x, y, z] : Array Operand).map a.eval = #[a.eval x, a.eval y, a.eval z] from by simp]
    exact C w _ _ _ (hx a0 n w0 vs B a w c).now (hy a0 n w0 vs B a w c).now (hz a0 n w0 vs B a w c).now
end
/-- The rows of limbs in the struct. -/
theorem SF.imp {ps qs : List Pr} (hl : ps.length = qs.length) (h : ∀ (f : Nat) (p q : Pr), ps[f]? = some p → qs[f]? = some q → ∀ v w, p v w → q v w) : ∀ v w, SF ps v w → SF qs v w := fun v w ⟨cs, e, h1, h2, h3⟩ => ⟨cs, e, h1.trans hl, h2, fun f q hq => by
  have hf : f < ps.length := by
    rw [hl]
    exact (List.getElem?_eq_some_iff.1 hq).1
  obtain ⟨u, hu, hp⟩ := h3 f (ps[f]'hf) (by simp [hf])
  exact ⟨u, hu, h f _ q (by simp [hf]) hq u w hp⟩⟩
end Go.Proofs.YtblmlhhicpomkaaDoor

/-
  zint's (*row).next: on in Euclid's row by one place or by many.
-/
namespace Go.Proofs.YtblmlhhicpomkaaDoor
open Go Go.RowKit Nt
set_option linter.unusedSimpArgs false
set_option linter.unusedVariables false

set_option maxHeartbeats 400000 in
theorem next_s (w w0 : World) (g A b X Y : Nat) (mn : Bool) (va vb vx vy u : Value) (hcut : Below w0.heap.size w0 w) (hB : ∀ k, (fun k => k = g) k → w0.heap.size ≤ k ∧ k < w.heap.size) (h1 : w.heap[g]? = some (.cells u.cells 68 (0, 0))) (hu : Has (fun k => k = g) w (SF [NE va A, NE vb b, NE vx X, NE vy Y, Is (.bool mn)]) u) (hb : b ≠ 0) (hle : b ≤ A) (sA : (digs A).length ≤ 1099511627776) (sX : (digs X).length ≤ 1099511627776) (sY : (digs Y).length ≤ 1099511627776) (h3 : (digs b).length < 3) :
    Calls Tryd.prog 42 #[.pointer (some ⟨g, 0, none⟩)] w (fun e w' => e = .returned (.tuple #[]) ∧ Ev (fun k => k = g) w w' ∧ ∃ u' : Value, w'.heap[g]? = some (.cells u'.cells 68 (0, 0)) ∧ (SF [(NE vb b), ((NN (A % b)) w.heap.size), (NE vy Y), ((NN (X + ((A / b) * Y))) w.heap.size), (Is (.bool (!mn)))]) u' w') := by
  have dq : (digs (A / b)).length ≤ (digs A).length := digs_length_mono (Nat.div_le_self _ _)
  have dqy : (digs ((A / b) * Y)).length ≤ (digs A).length + (digs Y).length := digs_mul_len dq (Nat.le_refl _)
  refine calls_own (bx := [(0, (.box 68 (SF [(NE va A), (NE vb b), (NE vx X), (NE vy Y), (Is (.bool mn))])))]) (sl := [(0, (Is (.pointer (some ⟨g, 0, none⟩))))]) (B := (fun k => k = g)) Tryd.func42 rfl Tryd.ntmps42 (by simp) hcut hB (by simp only [List.mem_cons, List.not_mem_nil, or_false, forall_eq]; exact ⟨_, rfl, g, u, rfl, rfl, h1, hu⟩) (by simp) (by simp only [List.mem_cons, List.not_mem_nil, or_false, forall_eq]; exact ⟨_, rfl, fun _ _ => rfl⟩) ?_
  intro a0 S0
  replace S0 : Sta w0 127 [(0, (.box 68 (SF [(NE va A), (NE vb b), (NE vx X), (NE vy Y), (Is (.bool mn))])))] [(0, (Is (.pointer (some ⟨g, 0, none⟩)))), (0, (Keep (fun k => k = g) w))] (fun k => k = g) a0 w := S0
  obtain ⟨B0, hB0⟩ : ∃ B, B = (fun k => k = g) := ⟨_, rfl⟩
  refine wp_seq ?_
  refine wp_stmt_seq [.val (Is (.pointer (some ⟨g, 0, none⟩))),
      .val (Is (.pointer (some ⟨g, 0, none⟩))),
      .val (Is (.pointer (some ⟨g, 1, none⟩))),
      .val (NE vb b),
      .val (Is (.int .i64 ((digs b).length : Nat))),
      .val (Is (.bool false))] [.inr 0] [.inl 5, .inr 0, .inr 1] follows S0 rfl (by kernel_rfl) ?_ ?_
  · refine ⟨⟨⟨⟨⟨⟨trivial, ?_⟩, ?_⟩, ?_⟩, ?_⟩, ?_⟩, ?_⟩
    · exact owe_move rfl (wants_all rfl) (Or.inl rfl) (opnd_slot 0 0 rfl (by kernel_rfl)) rfl
    · exact owe_un (x := .tmp 7) rfl (wants_all rfl) rfl (opnd_op 0 7 (by kernel_rfl) rfl) rfl (fun ρ w h1 => run_nilc ρ _ _ w _ h1)
    · exact owe_un (x := .tmp 8) rfl (wants_all rfl) rfl (opnd_op 1 8 (by kernel_rfl) rfl) rfl (fun ρ w h1 => part_row1 ρ _ _ w _ h1)
    · exact owe_sload rfl (wants_all rfl) rfl (opnd_op 2 9 (by kernel_rfl) rfl) (k := 0) rfl (j := 0) rfl (by kernel_rfl) rfl load1_sl rfl
    · exact owe_len rfl (wants_all rfl) rfl (opnd_op 3 10 (by kernel_rfl) rfl) ne_len Tryd.underlying22 rfl
    · exact owe_bin rfl (wants_all rfl) rfl (opnd_op 4 11 (by kernel_rfl) rfl) (opnd_const _) rfl (fun ρ w h1 h2 => by exact run_geq_int_f ρ _ _ _ w _ _ (by omega) h1 h2)
  intro B1 a1 W1 S1
  replace S1 : Sta w0 127 [(0, (.box 68 (SF [(NE va A), (NE vb b), (NE vx X), (NE vy Y), (Is (.bool mn))])))] [(12, (Is (.bool false))), (0, (Is (.pointer (some ⟨g, 0, none⟩)))), (0, (Keep (fun k => k = g) w))] B1 a1 W1 := S1
  refine wp_cond_false (S1.bool 0 12 rfl) ?_
  refine wp_skip ?_
  refine thenN ?_
  refine wp_stmt_seq [.val (Is (.pointer (some ⟨g, 0, none⟩))),
      .val (Is (.pointer (some ⟨g, 0, none⟩))),
      .val (Is (.pointer (some ⟨g, 0, none⟩))),
      .val (NE va A),
      .val (Is (.pointer (some ⟨g, 0, none⟩))),
      .val (Is (.pointer (some ⟨g, 0, none⟩))),
      .val (Is (.pointer (some ⟨g, 1, none⟩))),
      .val (NE vb b),
      .val ((THREE (NN (A / b)) (NN (A % b)) (IS (.int .i64 0))) w.heap.size),
      .val ((THREE (NN (A / b)) (NN (A % b)) (IS (.int .i64 0))) w.heap.size),
      .val ((NN (A / b)) w.heap.size),
      .val ((NN (A % b)) w.heap.size),
      .val (Is (.int .i64 0)),
      .val ((NN (A / b)) w.heap.size),
      .val ((NN (A % b)) w.heap.size),
      .val (Is (.int .i64 0))] [.inr 0] [.inl 13, .inl 14, .inr 0, .inr 1, .inr 2] follows S1 rfl (by kernel_rfl) ?_ ?_
  · refine ⟨⟨⟨⟨⟨⟨⟨⟨⟨⟨⟨⟨⟨⟨⟨⟨trivial, ?_⟩, ?_⟩, ?_⟩, ?_⟩, ?_⟩, ?_⟩, ?_⟩, ?_⟩, ?_⟩, ?_⟩, ?_⟩, ?_⟩, ?_⟩, ?_⟩, ?_⟩, ?_⟩
    · exact owe_move rfl (wants_all rfl) (Or.inl rfl) (opnd_slot 1 0 rfl (by kernel_rfl)) rfl
    · exact owe_un (x := .tmp 75) rfl (wants_all rfl) rfl (opnd_op 0 75 (by kernel_rfl) rfl) rfl (fun ρ w h1 => run_nilc ρ _ _ w _ h1)
    · exact owe_un (x := .tmp 76) rfl (wants_all rfl) rfl (opnd_op 1 76 (by kernel_rfl) rfl) rfl (fun ρ w h1 => part_row0 ρ _ _ w _ h1)
    · exact owe_sload rfl (wants_all rfl) rfl (opnd_op 2 77 (by kernel_rfl) rfl) (k := 0) rfl (j := 1) rfl (by kernel_rfl) rfl load1_sl rfl
    · exact owe_move rfl (wants_all rfl) (Or.inl rfl) (opnd_slot 1 0 rfl (by kernel_rfl)) rfl
    · exact owe_un (x := .tmp 79) rfl (wants_all rfl) rfl (opnd_op 4 79 (by kernel_rfl) rfl) rfl (fun ρ w h1 => run_nilc ρ _ _ w _ h1)
    · exact owe_un (x := .tmp 80) rfl (wants_all rfl) rfl (opnd_op 5 80 (by kernel_rfl) rfl) rfl (fun ρ w h1 => part_row1 ρ _ _ w _ h1)
    · exact owe_sload rfl (wants_all rfl) rfl (opnd_op 6 81 (by kernel_rfl) rfl) (k := 0) rfl (j := 1) rfl (by kernel_rfl) rfl load1_sl rfl
    · exact owe_call2K rfl (wants_all rfl) rfl (opnd_op 3 78 (by kernel_rfl) rfl) (opnd_op 7 82 (by kernel_rfl) rfl) (fresh_three (fresh_nn _) (fresh_nn _) (fresh_is _)) (opnd_slot 2 0 rfl (by kernel_rfl)) rfl (fun args w => by go_simp) (fun w u v h1 h2 => g_div hb (by omega) w u v ((ne_nv (Nat.le_refl _)) _ _ h1) ((ne_nv (Nat.le_refl _)) _ _ h2))
    · exact owe_move rfl (wants_all rfl) (Or.inl rfl) (opnd_op 8 83 (by kernel_rfl) rfl) rfl
    · exact owe_ext3 rfl (wants_all rfl) rfl (opnd_op 9 74 (by kernel_rfl) rfl) (Or.inl ⟨rfl, rfl⟩) rfl
    · exact owe_ext3 rfl (wants_all rfl) rfl (opnd_op 9 74 (by kernel_rfl) rfl) (Or.inr (Or.inl ⟨rfl, rfl⟩)) rfl
    · exact owe_ext3 rfl (wants_all rfl) rfl (opnd_op 9 74 (by kernel_rfl) rfl) (Or.inr (Or.inr ⟨rfl, rfl⟩)) rfl
    · exact owe_move rfl (wants_all rfl) (Or.inr rfl) (opnd_op 10 84 (by kernel_rfl) rfl) rfl
    · exact owe_move rfl (wants_all rfl) (Or.inr rfl) (opnd_op 11 85 (by kernel_rfl) rfl) rfl
    · exact owe_move rfl (wants_all rfl) (Or.inr rfl) (opnd_op 12 86 (by kernel_rfl) rfl) rfl
  intro B2 a2 W2 S2
  replace S2 : Sta w0 127 [(0, (.box 68 (SF [(NE va A), (NE vb b), (NE vx X), (NE vy Y), (Is (.bool mn))])))] [(4, ((NN (A / b)) w.heap.size)), (5, ((NN (A % b)) w.heap.size)), (12, (Is (.bool false))), (0, (Is (.pointer (some ⟨g, 0, none⟩)))), (0, (Keep (fun k => k = g) w))] B2 a2 W2 := S2
  refine wp_stmt_seq [.val (Is (.pointer (some ⟨g, 0, none⟩))),
      .val (Is (.pointer (some ⟨g, 0, none⟩))),
      .val (Is (.pointer (some ⟨g, 0, none⟩))),
      .val (Is (.pointer (some ⟨g, 0, none⟩))),
      .val (Is (.pointer (some ⟨g, 1, none⟩))),
      .val (NE vb b),
      .val ((NN (A % b)) w.heap.size),
      .val (Is (.pointer (some ⟨g, 0, none⟩))),
      .val (Is (.pointer (some ⟨g, 0, none⟩))),
      .put (.inl 0) (.box 68 (SF [(NE vb b), (NE vb b), (NE vx X), (NE vy Y), (Is (.bool mn))])),
      .val (Is (.pointer (some ⟨g, 0, none⟩))),
      .val (Is (.pointer (some ⟨g, 1, none⟩))),
      .put (.inl 0) (.box 68 (SF [(NE vb b), ((NN (A % b)) w.heap.size), (NE vx X), (NE vy Y), (Is (.bool mn))]))] [.inr 0] [.inr 0, .inr 2, .inr 3, .inr 4] follows S2 rfl (by kernel_rfl) ?_ ?_
  · refine ⟨⟨⟨⟨⟨⟨⟨⟨⟨⟨⟨⟨⟨trivial, ?_⟩, ?_⟩, ?_⟩, ?_⟩, ?_⟩, ?_⟩, ?_⟩, ?_⟩, ?_⟩, ?_⟩, ?_⟩, ?_⟩, ?_⟩
    · exact owe_move rfl (wants_all rfl) (Or.inl rfl) (opnd_slot 3 0 rfl (by kernel_rfl)) rfl
    · exact owe_move rfl (wants_all rfl) (Or.inl rfl) (opnd_slot 3 0 rfl (by kernel_rfl)) rfl
    · exact owe_move rfl (wants_all rfl) (Or.inl rfl) (opnd_slot 3 0 rfl (by kernel_rfl)) rfl
    · exact owe_un (x := .tmp 89) rfl (wants_all rfl) rfl (opnd_op 2 89 (by kernel_rfl) rfl) rfl (fun ρ w h1 => run_nilc ρ _ _ w _ h1)
    · exact owe_un (x := .tmp 90) rfl (wants_all rfl) rfl (opnd_op 3 90 (by kernel_rfl) rfl) rfl (fun ρ w h1 => part_row1 ρ _ _ w _ h1)
    · exact owe_sload rfl (wants_all rfl) rfl (opnd_op 4 91 (by kernel_rfl) rfl) (k := 0) rfl (j := 3) rfl (by kernel_rfl) rfl load1_sl rfl
    · exact owe_move rfl (wants_all rfl) (Or.inl rfl) (opnd_slot 1 5 rfl (by kernel_rfl)) rfl
    · exact owe_un (x := .tmp 87) rfl (wants_all rfl) rfl (opnd_op 0 87 (by kernel_rfl) rfl) rfl (fun ρ w h1 => run_nilc ρ _ _ w _ h1)
    · exact owe_un (x := .tmp 94) rfl (wants_all rfl) rfl (opnd_op 7 94 (by kernel_rfl) rfl) rfl (fun ρ w h1 => part_row0 ρ _ _ w _ h1)
    · exact owe_sput rfl (wants_all rfl) rfl (opnd_op 8 95 (by kernel_rfl) rfl) (k := 0) rfl (j := 3) rfl (by kernel_rfl) (opnd_op 5 92 (by kernel_rfl) rfl) flat_ne (Nat.le_of_ble_eq_true rfl) store1_sl rfl
    · exact owe_un (x := .tmp 88) rfl (wants_all rfl) rfl (opnd_op 1 88 (by kernel_rfl) rfl) rfl (fun ρ w h1 => run_nilc ρ _ _ w _ h1)
    · exact owe_un (x := .tmp 96) rfl (wants_all rfl) rfl (opnd_op 10 96 (by kernel_rfl) rfl) rfl (fun ρ w h1 => part_row1 ρ _ _ w _ h1)
    · exact owe_sput2 9 rfl (wants_all rfl) rfl (opnd_op 11 97 (by kernel_rfl) rfl) (by kernel_rfl) rfl (j := 3) rfl (opnd_op 6 93 (by kernel_rfl) rfl) flat_nn (Nat.le_of_ble_eq_true rfl) store1_sl rfl
  intro B3 a3 W3 S3
  replace S3 : Sta w0 127 [(0, (.box 68 (SF [(NE vb b), ((NN (A % b)) w.heap.size), (NE vx X), (NE vy Y), (Is (.bool mn))])))] [(4, ((NN (A / b)) w.heap.size)), (12, (Is (.bool false))), (0, (Is (.pointer (some ⟨g, 0, none⟩)))), (0, (Keep (fun k => k = g) w))] B3 a3 W3 := S3
  refine wp_stmt_seq [.val (Is (.pointer (some ⟨g, 0, none⟩))),
      .val (Is (.pointer (some ⟨g, 0, none⟩))),
      .val (Is (.pointer (some ⟨g, 0, none⟩))),
      .val (Is (.pointer (some ⟨g, 0, none⟩))),
      .val (Is (.pointer (some ⟨g, 3, none⟩))),
      .val (NE vy Y),
      .val (Is (.pointer (some ⟨g, 0, none⟩))),
      .val (Is (.pointer (some ⟨g, 0, none⟩))),
      .val (Is (.pointer (some ⟨g, 2, none⟩))),
      .val (NE vx X),
      .val ((NN (A / b)) w.heap.size),
      .val (Is (.pointer (some ⟨g, 0, none⟩))),
      .val (Is (.pointer (some ⟨g, 0, none⟩))),
      .val (Is (.pointer (some ⟨g, 3, none⟩))),
      .val (NE vy Y),
      .val ((NN ((A / b) * Y)) w.heap.size),
      .val ((NN (X + ((A / b) * Y))) w.heap.size),
      .val (Is (.pointer (some ⟨g, 0, none⟩))),
      .val (Is (.pointer (some ⟨g, 2, none⟩))),
      .put (.inl 0) (.box 68 (SF [(NE vb b), ((NN (A % b)) w.heap.size), (NE vy Y), (NE vy Y), (Is (.bool mn))])),
      .val (Is (.pointer (some ⟨g, 0, none⟩))),
      .val (Is (.pointer (some ⟨g, 3, none⟩))),
      .put (.inl 0) (.box 68 (SF [(NE vb b), ((NN (A % b)) w.heap.size), (NE vy Y), ((NN (X + ((A / b) * Y))) w.heap.size), (Is (.bool mn))]))] [.inr 0] [.inr 1, .inr 2, .inr 3] follows S3 rfl (by kernel_rfl) ?_ ?_
  · refine ⟨⟨⟨⟨⟨⟨⟨⟨⟨⟨⟨⟨⟨⟨⟨⟨⟨⟨⟨⟨⟨⟨⟨trivial, ?_⟩, ?_⟩, ?_⟩, ?_⟩, ?_⟩, ?_⟩, ?_⟩, ?_⟩, ?_⟩, ?_⟩, ?_⟩, ?_⟩, ?_⟩, ?_⟩, ?_⟩, ?_⟩, ?_⟩, ?_⟩, ?_⟩, ?_⟩, ?_⟩, ?_⟩, ?_⟩
    · exact owe_move rfl (wants_all rfl) (Or.inl rfl) (opnd_slot 2 0 rfl (by kernel_rfl)) rfl
    · exact owe_move rfl (wants_all rfl) (Or.inl rfl) (opnd_slot 2 0 rfl (by kernel_rfl)) rfl
    · exact owe_move rfl (wants_all rfl) (Or.inl rfl) (opnd_slot 2 0 rfl (by kernel_rfl)) rfl
    · exact owe_un (x := .tmp 100) rfl (wants_all rfl) rfl (opnd_op 2 100 (by kernel_rfl) rfl) rfl (fun ρ w h1 => run_nilc ρ _ _ w _ h1)
    · exact owe_un (x := .tmp 101) rfl (wants_all rfl) rfl (opnd_op 3 101 (by kernel_rfl) rfl) rfl (fun ρ w h1 => part_row3 ρ _ _ w _ h1)
    · exact owe_sload rfl (wants_all rfl) rfl (opnd_op 4 102 (by kernel_rfl) rfl) (k := 0) rfl (j := 2) rfl (by kernel_rfl) rfl load1_sl rfl
    · exact owe_move rfl (wants_all rfl) (Or.inl rfl) (opnd_slot 2 0 rfl (by kernel_rfl)) rfl
    · exact owe_un (x := .tmp 104) rfl (wants_all rfl) rfl (opnd_op 6 104 (by kernel_rfl) rfl) rfl (fun ρ w h1 => run_nilc ρ _ _ w _ h1)
    · exact owe_un (x := .tmp 105) rfl (wants_all rfl) rfl (opnd_op 7 105 (by kernel_rfl) rfl) rfl (fun ρ w h1 => part_row2 ρ _ _ w _ h1)
    · exact owe_sload rfl (wants_all rfl) rfl (opnd_op 8 106 (by kernel_rfl) rfl) (k := 0) rfl (j := 2) rfl (by kernel_rfl) rfl load1_sl rfl
    · exact owe_move rfl (wants_all rfl) (Or.inl rfl) (opnd_slot 0 4 rfl (by kernel_rfl)) rfl
    · exact owe_move rfl (wants_all rfl) (Or.inl rfl) (opnd_slot 2 0 rfl (by kernel_rfl)) rfl
    · exact owe_un (x := .tmp 109) rfl (wants_all rfl) rfl (opnd_op 11 109 (by kernel_rfl) rfl) rfl (fun ρ w h1 => run_nilc ρ _ _ w _ h1)
    · exact owe_un (x := .tmp 110) rfl (wants_all rfl) rfl (opnd_op 12 110 (by kernel_rfl) rfl) rfl (fun ρ w h1 => part_row3 ρ _ _ w _ h1)
    · exact owe_sload rfl (wants_all rfl) rfl (opnd_op 13 111 (by kernel_rfl) rfl) (k := 0) rfl (j := 2) rfl (by kernel_rfl) rfl load1_sl rfl
    · exact owe_call2K rfl (wants_all rfl) rfl (opnd_op 10 108 (by kernel_rfl) rfl) (opnd_op 14 112 (by kernel_rfl) rfl) (fresh_nn _) (opnd_slot 3 0 rfl (by kernel_rfl)) rfl (fun args w => by go_simp) (fun w u v h1 h2 => g_mul (by omega) w u v ((nn_nv dq) _ _ h1) ((ne_nv (Nat.le_refl _)) _ _ h2))
    · exact owe_call2K rfl (wants_all rfl) rfl (opnd_op 9 107 (by kernel_rfl) rfl) (opnd_op 15 113 (by kernel_rfl) rfl) (fresh_nn _) (opnd_slot 3 0 rfl (by kernel_rfl)) rfl (fun args w => by go_simp) (fun w u v h1 h2 => g_add (by omega) (by omega) w u v ((ne_nv (Nat.le_refl _)) _ _ h1) ((nn_nv dqy) _ _ h2))
    · exact owe_un (x := .tmp 98) rfl (wants_all rfl) rfl (opnd_op 0 98 (by kernel_rfl) rfl) rfl (fun ρ w h1 => run_nilc ρ _ _ w _ h1)
    · exact owe_un (x := .tmp 115) rfl (wants_all rfl) rfl (opnd_op 17 115 (by kernel_rfl) rfl) rfl (fun ρ w h1 => part_row2 ρ _ _ w _ h1)
    · exact owe_sput rfl (wants_all rfl) rfl (opnd_op 18 116 (by kernel_rfl) rfl) (k := 0) rfl (j := 2) rfl (by kernel_rfl) (opnd_op 5 103 (by kernel_rfl) rfl) flat_ne (Nat.le_of_ble_eq_true rfl) store1_sl rfl
    · exact owe_un (x := .tmp 99) rfl (wants_all rfl) rfl (opnd_op 1 99 (by kernel_rfl) rfl) rfl (fun ρ w h1 => run_nilc ρ _ _ w _ h1)
    · exact owe_un (x := .tmp 117) rfl (wants_all rfl) rfl (opnd_op 20 117 (by kernel_rfl) rfl) rfl (fun ρ w h1 => part_row3 ρ _ _ w _ h1)
    · exact owe_sput2 19 rfl (wants_all rfl) rfl (opnd_op 21 118 (by kernel_rfl) rfl) (by kernel_rfl) rfl (j := 2) rfl (opnd_op 16 114 (by kernel_rfl) rfl) flat_nn (Nat.le_of_ble_eq_true rfl) store1_sl rfl
  intro B4 a4 W4 S4
  replace S4 : Sta w0 127 [(0, (.box 68 (SF [(NE vb b), ((NN (A % b)) w.heap.size), (NE vy Y), ((NN (X + ((A / b) * Y))) w.heap.size), (Is (.bool mn))])))] [(12, (Is (.bool false))), (0, (Is (.pointer (some ⟨g, 0, none⟩)))), (0, (Keep (fun k => k = g) w))] B4 a4 W4 := S4
  refine wp_stmt [.val (Is (.pointer (some ⟨g, 0, none⟩))),
      .val (Is (.pointer (some ⟨g, 0, none⟩))),
      .val (Is (.pointer (some ⟨g, 0, none⟩))),
      .val (Is (.pointer (some ⟨g, 4, none⟩))),
      .val (Is (.bool mn)),
      .val (Is (.bool (!mn))),
      .val (Is (.pointer (some ⟨g, 0, none⟩))),
      .val (Is (.pointer (some ⟨g, 4, none⟩))),
      .put (.inl 0) (.box 68 (SF [(NE vb b), ((NN (A % b)) w.heap.size), (NE vy Y), ((NN (X + ((A / b) * Y))) w.heap.size), (Is (.bool (!mn)))]))] [.inr 0] [.inr 0, .inr 1, .inr 2] follows S4 rfl (by kernel_rfl) ?_ ?_
  · refine ⟨⟨⟨⟨⟨⟨⟨⟨⟨trivial, ?_⟩, ?_⟩, ?_⟩, ?_⟩, ?_⟩, ?_⟩, ?_⟩, ?_⟩, ?_⟩
    · exact owe_move rfl (wants_all rfl) (Or.inl rfl) (opnd_slot 1 0 rfl (by kernel_rfl)) rfl
    · exact owe_move rfl (wants_all rfl) (Or.inl rfl) (opnd_slot 1 0 rfl (by kernel_rfl)) rfl
    · exact owe_un (x := .tmp 120) rfl (wants_all rfl) rfl (opnd_op 1 120 (by kernel_rfl) rfl) rfl (fun ρ w h1 => run_nilc ρ _ _ w _ h1)
    · exact owe_un (x := .tmp 121) rfl (wants_all rfl) rfl (opnd_op 2 121 (by kernel_rfl) rfl) rfl (fun ρ w h1 => part_row4 ρ _ _ w _ h1)
    · exact owe_sload rfl (wants_all rfl) rfl (opnd_op 3 122 (by kernel_rfl) rfl) (k := 0) rfl (j := 1) rfl (by kernel_rfl) rfl load1_bool rfl
    · exact owe_un (x := .tmp 123) rfl (wants_all rfl) rfl (opnd_op 4 123 (by kernel_rfl) rfl) rfl (fun ρ w h1 => run_not ρ _ _ w _ h1)
    · exact owe_un (x := .tmp 119) rfl (wants_all rfl) rfl (opnd_op 0 119 (by kernel_rfl) rfl) rfl (fun ρ w h1 => run_nilc ρ _ _ w _ h1)
    · exact owe_un (x := .tmp 125) rfl (wants_all rfl) rfl (opnd_op 6 125 (by kernel_rfl) rfl) rfl (fun ρ w h1 => part_row4 ρ _ _ w _ h1)
    · exact owe_sput rfl (wants_all rfl) rfl (opnd_op 7 126 (by kernel_rfl) rfl) (k := 0) rfl (j := 1) rfl (by kernel_rfl) (opnd_op 5 124 (by kernel_rfl) rfl) flat_bool (Nat.le_of_ble_eq_true rfl) store1_bool rfl
  intro B5 a5 W5 S5
  replace S5 : Sta w0 127 [(0, (.box 68 (SF [(NE vb b), ((NN (A % b)) w.heap.size), (NE vy Y), ((NN (X + ((A / b) * Y))) w.heap.size), (Is (.bool (!mn)))])))] [(12, (Is (.bool false))), (0, (Is (.pointer (some ⟨g, 0, none⟩)))), (0, (Keep (fun k => k = g) w))] B5 a5 W5 := S5
  refine (end_none S5 rfl ?_).1
  obtain ⟨v1, e1, f1⟩ := S5.content_at 0 0 rfl 1 rfl
  exact ⟨rfl, S5.slot 2 0 rfl, v1, e1, f1⟩

set_option maxHeartbeats 400000 in
theorem next_l0 (w w0 : World) (g A b X Y : Nat) (mn : Bool) (va vb vx vy u : Value) (hcut : Below w0.heap.size w0 w) (hB : ∀ k, (fun k => k = g) k → w0.heap.size ≤ k ∧ k < w.heap.size) (h1 : w.heap[g]? = some (.cells u.cells 68 (0, 0))) (hu : Has (fun k => k = g) w (SF [NE va A, NE vb b, NE vx X, NE vy Y, Is (.bool mn)]) u) (hb : b ≠ 0) (hle : b ≤ A) (sA : (digs A).length ≤ 1099511627776) (sX : (digs X).length ≤ 1099511627776) (sY : (digs Y).length ≤ 1099511627776) (h3 : 3 ≤ (digs b).length) (hV : (lk A b).2.1 = 0) :
    Calls Tryd.prog 42 #[.pointer (some ⟨g, 0, none⟩)] w (fun e w' => e = .returned (.tuple #[]) ∧ Ev (fun k => k = g) w w' ∧ ∃ u' : Value, w'.heap[g]? = some (.cells u'.cells 68 (0, 0)) ∧ (SF [(NE vb b), ((NN (A % b)) w.heap.size), (NE vy Y), ((NN (X + ((A / b) * Y))) w.heap.size), (Is (.bool (!mn)))]) u' w' ∧ Stp A b (lk A b)) := by
  have dq : (digs (A / b)).length ≤ (digs A).length := digs_length_mono (Nat.div_le_self _ _)
  have dqy : (digs ((A / b) * Y)).length ≤ (digs A).length + (digs Y).length := digs_mul_len dq (Nat.le_refl _)
  have hV2 : (!decide ((lk A b).2.1 = 0)) = false := by simp [hV]
  refine calls_own (bx := [(0, (.box 68 (SF [(NE va A), (NE vb b), (NE vx X), (NE vy Y), (Is (.bool mn))])))]) (sl := [(0, (Is (.pointer (some ⟨g, 0, none⟩))))]) (B := (fun k => k = g)) Tryd.func42 rfl Tryd.ntmps42 (by simp) hcut hB (by simp only [List.mem_cons, List.not_mem_nil, or_false, forall_eq]; exact ⟨_, rfl, g, u, rfl, rfl, h1, hu⟩) (by simp) (by simp only [List.mem_cons, List.not_mem_nil, or_false, forall_eq]; exact ⟨_, rfl, fun _ _ => rfl⟩) ?_
  intro a0 S0
  replace S0 : Sta w0 127 [(0, (.box 68 (SF [(NE va A), (NE vb b), (NE vx X), (NE vy Y), (Is (.bool mn))])))] [(0, (Is (.pointer (some ⟨g, 0, none⟩)))), (0, (Keep (fun k => k = g) w))] (fun k => k = g) a0 w := S0
  obtain ⟨B0, hB0⟩ : ∃ B, B = (fun k => k = g) := ⟨_, rfl⟩
  refine wp_seq ?_
  refine wp_stmt_seq [.val (Is (.pointer (some ⟨g, 0, none⟩))),
      .val (Is (.pointer (some ⟨g, 0, none⟩))),
      .val (Is (.pointer (some ⟨g, 1, none⟩))),
      .val (NE vb b),
      .val (Is (.int .i64 ((digs b).length : Nat))),
      .val (Is (.bool true))] [.inr 0] [.inl 5, .inr 0, .inr 1] follows S0 rfl (by kernel_rfl) ?_ ?_
  · refine ⟨⟨⟨⟨⟨⟨trivial, ?_⟩, ?_⟩, ?_⟩, ?_⟩, ?_⟩, ?_⟩
    · exact owe_move rfl (wants_all rfl) (Or.inl rfl) (opnd_slot 0 0 rfl (by kernel_rfl)) rfl
    · exact owe_un (x := .tmp 7) rfl (wants_all rfl) rfl (opnd_op 0 7 (by kernel_rfl) rfl) rfl (fun ρ w h1 => run_nilc ρ _ _ w _ h1)
    · exact owe_un (x := .tmp 8) rfl (wants_all rfl) rfl (opnd_op 1 8 (by kernel_rfl) rfl) rfl (fun ρ w h1 => part_row1 ρ _ _ w _ h1)
    · exact owe_sload rfl (wants_all rfl) rfl (opnd_op 2 9 (by kernel_rfl) rfl) (k := 0) rfl (j := 0) rfl (by kernel_rfl) rfl load1_sl rfl
    · exact owe_len rfl (wants_all rfl) rfl (opnd_op 3 10 (by kernel_rfl) rfl) ne_len Tryd.underlying22 rfl
    · exact owe_bin rfl (wants_all rfl) rfl (opnd_op 4 11 (by kernel_rfl) rfl) (opnd_const _) rfl (fun ρ w h1 h2 => by exact run_geq_int_t ρ _ _ _ w _ _ (by omega) h1 h2)
  intro B1 a1 W1 S1
  replace S1 : Sta w0 127 [(0, (.box 68 (SF [(NE va A), (NE vb b), (NE vx X), (NE vy Y), (Is (.bool mn))])))] [(12, (Is (.bool true))), (0, (Is (.pointer (some ⟨g, 0, none⟩)))), (0, (Keep (fun k => k = g) w))] B1 a1 W1 := S1
  refine wp_cond_true (S1.bool 0 12 rfl) ?_
  refine wp_stmt_seq [.val (Is (.pointer (some ⟨g, 0, none⟩))),
      .val (Is (.pointer (some ⟨g, 0, none⟩))),
      .val (Is (.pointer (some ⟨g, 0, none⟩))),
      .val (NE va A),
      .val (Is (.pointer (some ⟨g, 0, none⟩))),
      .val (Is (.pointer (some ⟨g, 0, none⟩))),
      .val (Is (.pointer (some ⟨g, 1, none⟩))),
      .val (NE vb b),
      .val ((TWO (SVF A b (lk A b)) (IS (.bool false))) w.heap.size),
      .val ((TWO (SVF A b (lk A b)) (IS (.bool false))) w.heap.size),
      .val ((SVF A b (lk A b)) w.heap.size),
      .val (Is (.bool false)),
      .new (.box 75 (Is (.agg #[.int .u64 0, .int .u64 0, .int .u64 0, .int .u64 0, .bool false]))),
      .put (.inr 12) (.box 75 ((SVF A b (lk A b)) w.heap.size)),
      .val (Is (.bool false))] [.inr 0, .inl 12] [.inl 14, .inr 0, .inr 1, .inr 2] follows S1 rfl (by kernel_rfl) ?_ ?_
  · refine ⟨⟨⟨⟨⟨⟨⟨⟨⟨⟨⟨⟨⟨⟨⟨trivial, ?_⟩, ?_⟩, ?_⟩, ?_⟩, ?_⟩, ?_⟩, ?_⟩, ?_⟩, ?_⟩, ?_⟩, ?_⟩, ?_⟩, ?_⟩, ?_⟩, ?_⟩
    · exact owe_move rfl (wants_all rfl) (Or.inl rfl) (opnd_slot 1 0 rfl (by kernel_rfl)) rfl
    · exact owe_un (x := .tmp 14) rfl (wants_all rfl) rfl (opnd_op 0 14 (by kernel_rfl) rfl) rfl (fun ρ w h1 => run_nilc ρ _ _ w _ h1)
    · exact owe_un (x := .tmp 15) rfl (wants_all rfl) rfl (opnd_op 1 15 (by kernel_rfl) rfl) rfl (fun ρ w h1 => part_row0 ρ _ _ w _ h1)
    · exact owe_sload rfl (wants_all rfl) rfl (opnd_op 2 16 (by kernel_rfl) rfl) (k := 0) rfl (j := 1) rfl (by kernel_rfl) rfl load1_sl rfl
    · exact owe_move rfl (wants_all rfl) (Or.inl rfl) (opnd_slot 1 0 rfl (by kernel_rfl)) rfl
    · exact owe_un (x := .tmp 18) rfl (wants_all rfl) rfl (opnd_op 4 18 (by kernel_rfl) rfl) rfl (fun ρ w h1 => run_nilc ρ _ _ w _ h1)
    · exact owe_un (x := .tmp 19) rfl (wants_all rfl) rfl (opnd_op 5 19 (by kernel_rfl) rfl) rfl (fun ρ w h1 => part_row1 ρ _ _ w _ h1)
    · exact owe_sload rfl (wants_all rfl) rfl (opnd_op 6 20 (by kernel_rfl) rfl) (k := 0) rfl (j := 1) rfl (by kernel_rfl) rfl load1_sl rfl
    · exact owe_call2K rfl (wants_all rfl) rfl (opnd_op 3 17 (by kernel_rfl) rfl) (opnd_op 7 21 (by kernel_rfl) rfl) (fresh_two (fresh_sv _ _ _) (fresh_is _)) (opnd_slot 2 0 rfl (by kernel_rfl)) rfl (fun args w => by go_simp) (fun w u0 u1 h0 h1 => Gives.cast ((fun w u v h1 h2 => g_look h3 hle (by omega) w u v (ne_nn _ _ h1) (ne_nn _ _ h2)) w u0 u1 h0 h1) (by rw [hV2]))
    · exact owe_move rfl (wants_all rfl) (Or.inl rfl) (opnd_op 8 22 (by kernel_rfl) rfl) rfl
    · exact owe_ext2 rfl (wants_all rfl) rfl (opnd_op 9 13 (by kernel_rfl) rfl) (Or.inl ⟨rfl, rfl⟩) rfl
    · exact owe_ext2 rfl (wants_all rfl) rfl (opnd_op 9 13 (by kernel_rfl) rfl) (Or.inr ⟨rfl, rfl⟩) rfl
    · exact owe_new rfl (wants_all rfl) rfl rfl (fun ρ w => alloc_steps ρ _ w)
    · exact owe_put 12 rfl (wants_all rfl) rfl (by kernel_rfl) rfl (opnd_op 10 23 (by kernel_rfl) rfl) (stores_of strct_steps shp_s0 shp_sv) rfl
    · exact owe_move rfl (wants_all rfl) (Or.inr rfl) (opnd_op 11 24 (by kernel_rfl) rfl) rfl
  intro B2 a2 W2 S2
  replace S2 : Sta w0 127 [(0, (.box 68 (SF [(NE va A), (NE vb b), (NE vx X), (NE vy Y), (Is (.bool mn))]))), (2, (.box 75 ((SVF A b (lk A b)) w.heap.size)))] [(3, (Is (.bool false))), (12, (Is (.bool true))), (0, (Is (.pointer (some ⟨g, 0, none⟩)))), (0, (Keep (fun k => k = g) w))] B2 a2 W2 := S2
  refine wp_stmt_seq [.val (Is (.bool false))] [.inr 0, .inr 1] [.inl 0, .inr 1, .inr 2, .inr 3] follows S2 rfl (by kernel_rfl) ?_ ?_
  · refine ⟨trivial, ?_⟩
    · exact owe_move rfl (wants_all rfl) (Or.inl rfl) (opnd_slot 0 3 rfl (by kernel_rfl)) rfl
  intro B3 a3 W3 S3
  replace S3 : Sta w0 127 [(0, (.box 68 (SF [(NE va A), (NE vb b), (NE vx X), (NE vy Y), (Is (.bool mn))]))), (2, (.box 75 ((SVF A b (lk A b)) w.heap.size)))] [(25, (Is (.bool false))), (12, (Is (.bool true))), (0, (Is (.pointer (some ⟨g, 0, none⟩)))), (0, (Keep (fun k => k = g) w))] B3 a3 W3 := S3
  refine wp_cond_false (S3.bool 0 25 rfl) ?_
  refine wp_skip ?_
  refine thenN ?_
  refine wp_stmt_seq [.val (Is (.pointer (some ⟨g, 0, none⟩))),
      .val (Is (.pointer (some ⟨g, 0, none⟩))),
      .val (Is (.pointer (some ⟨g, 0, none⟩))),
      .val (NE va A),
      .val (Is (.pointer (some ⟨g, 0, none⟩))),
      .val (Is (.pointer (some ⟨g, 0, none⟩))),
      .val (Is (.pointer (some ⟨g, 1, none⟩))),
      .val (NE vb b),
      .val ((THREE (NN (A / b)) (NN (A % b)) (IS (.int .i64 0))) w.heap.size),
      .val ((THREE (NN (A / b)) (NN (A % b)) (IS (.int .i64 0))) w.heap.size),
      .val ((NN (A / b)) w.heap.size),
      .val ((NN (A % b)) w.heap.size),
      .val (Is (.int .i64 0)),
      .val ((NN (A / b)) w.heap.size),
      .val ((NN (A % b)) w.heap.size),
      .val (Is (.int .i64 0))] [.inr 0, .inr 1] [.inl 13, .inl 14, .inr 0, .inr 1, .inr 2, .inr 3] follows S3 rfl (by kernel_rfl) ?_ ?_
  · refine ⟨⟨⟨⟨⟨⟨⟨⟨⟨⟨⟨⟨⟨⟨⟨⟨trivial, ?_⟩, ?_⟩, ?_⟩, ?_⟩, ?_⟩, ?_⟩, ?_⟩, ?_⟩, ?_⟩, ?_⟩, ?_⟩, ?_⟩, ?_⟩, ?_⟩, ?_⟩, ?_⟩
    · exact owe_move rfl (wants_all rfl) (Or.inl rfl) (opnd_slot 2 0 rfl (by kernel_rfl)) rfl
    · exact owe_un (x := .tmp 75) rfl (wants_all rfl) rfl (opnd_op 0 75 (by kernel_rfl) rfl) rfl (fun ρ w h1 => run_nilc ρ _ _ w _ h1)
    · exact owe_un (x := .tmp 76) rfl (wants_all rfl) rfl (opnd_op 1 76 (by kernel_rfl) rfl) rfl (fun ρ w h1 => part_row0 ρ _ _ w _ h1)
    · exact owe_sload rfl (wants_all rfl) rfl (opnd_op 2 77 (by kernel_rfl) rfl) (k := 0) rfl (j := 2) rfl (by kernel_rfl) rfl load1_sl rfl
    · exact owe_move rfl (wants_all rfl) (Or.inl rfl) (opnd_slot 2 0 rfl (by kernel_rfl)) rfl
    · exact owe_un (x := .tmp 79) rfl (wants_all rfl) rfl (opnd_op 4 79 (by kernel_rfl) rfl) rfl (fun ρ w h1 => run_nilc ρ _ _ w _ h1)
    · exact owe_un (x := .tmp 80) rfl (wants_all rfl) rfl (opnd_op 5 80 (by kernel_rfl) rfl) rfl (fun ρ w h1 => part_row1 ρ _ _ w _ h1)
    · exact owe_sload rfl (wants_all rfl) rfl (opnd_op 6 81 (by kernel_rfl) rfl) (k := 0) rfl (j := 2) rfl (by kernel_rfl) rfl load1_sl rfl
    · exact owe_call2K rfl (wants_all rfl) rfl (opnd_op 3 78 (by kernel_rfl) rfl) (opnd_op 7 82 (by kernel_rfl) rfl) (fresh_three (fresh_nn _) (fresh_nn _) (fresh_is _)) (opnd_slot 3 0 rfl (by kernel_rfl)) rfl (fun args w => by go_simp) (fun w u v h1 h2 => g_div hb (by omega) w u v ((ne_nv (Nat.le_refl _)) _ _ h1) ((ne_nv (Nat.le_refl _)) _ _ h2))
    · exact owe_move rfl (wants_all rfl) (Or.inl rfl) (opnd_op 8 83 (by kernel_rfl) rfl) rfl
    · exact owe_ext3 rfl (wants_all rfl) rfl (opnd_op 9 74 (by kernel_rfl) rfl) (Or.inl ⟨rfl, rfl⟩) rfl
    · exact owe_ext3 rfl (wants_all rfl) rfl (opnd_op 9 74 (by kernel_rfl) rfl) (Or.inr (Or.inl ⟨rfl, rfl⟩)) rfl
    · exact owe_ext3 rfl (wants_all rfl) rfl (opnd_op 9 74 (by kernel_rfl) rfl) (Or.inr (Or.inr ⟨rfl, rfl⟩)) rfl
    · exact owe_move rfl (wants_all rfl) (Or.inr rfl) (opnd_op 10 84 (by kernel_rfl) rfl) rfl
    · exact owe_move rfl (wants_all rfl) (Or.inr rfl) (opnd_op 11 85 (by kernel_rfl) rfl) rfl
    · exact owe_move rfl (wants_all rfl) (Or.inr rfl) (opnd_op 12 86 (by kernel_rfl) rfl) rfl
  intro B4 a4 W4 S4
  replace S4 : Sta w0 127 [(0, (.box 68 (SF [(NE va A), (NE vb b), (NE vx X), (NE vy Y), (Is (.bool mn))]))), (2, (.box 75 ((SVF A b (lk A b)) w.heap.size)))] [(4, ((NN (A / b)) w.heap.size)), (5, ((NN (A % b)) w.heap.size)), (25, (Is (.bool false))), (12, (Is (.bool true))), (0, (Is (.pointer (some ⟨g, 0, none⟩)))), (0, (Keep (fun k => k = g) w))] B4 a4 W4 := S4
  refine wp_stmt_seq [.val (Is (.pointer (some ⟨g, 0, none⟩))),
      .val (Is (.pointer (some ⟨g, 0, none⟩))),
      .val (Is (.pointer (some ⟨g, 0, none⟩))),
      .val (Is (.pointer (some ⟨g, 0, none⟩))),
      .val (Is (.pointer (some ⟨g, 1, none⟩))),
      .val (NE vb b),
      .val ((NN (A % b)) w.heap.size),
      .val (Is (.pointer (some ⟨g, 0, none⟩))),
      .val (Is (.pointer (some ⟨g, 0, none⟩))),
      .put (.inl 0) (.box 68 (SF [(NE vb b), (NE vb b), (NE vx X), (NE vy Y), (Is (.bool mn))])),
      .val (Is (.pointer (some ⟨g, 0, none⟩))),
      .val (Is (.pointer (some ⟨g, 1, none⟩))),
      .put (.inl 0) (.box 68 (SF [(NE vb b), ((NN (A % b)) w.heap.size), (NE vx X), (NE vy Y), (Is (.bool mn))]))] [.inr 0, .inr 1] [.inr 0, .inr 2, .inr 3, .inr 4, .inr 5] follows S4 rfl (by kernel_rfl) ?_ ?_
  · refine ⟨⟨⟨⟨⟨⟨⟨⟨⟨⟨⟨⟨⟨trivial, ?_⟩, ?_⟩, ?_⟩, ?_⟩, ?_⟩, ?_⟩, ?_⟩, ?_⟩, ?_⟩, ?_⟩, ?_⟩, ?_⟩, ?_⟩
    · exact owe_move rfl (wants_all rfl) (Or.inl rfl) (opnd_slot 4 0 rfl (by kernel_rfl)) rfl
    · exact owe_move rfl (wants_all rfl) (Or.inl rfl) (opnd_slot 4 0 rfl (by kernel_rfl)) rfl
    · exact owe_move rfl (wants_all rfl) (Or.inl rfl) (opnd_slot 4 0 rfl (by kernel_rfl)) rfl
    · exact owe_un (x := .tmp 89) rfl (wants_all rfl) rfl (opnd_op 2 89 (by kernel_rfl) rfl) rfl (fun ρ w h1 => run_nilc ρ _ _ w _ h1)
    · exact owe_un (x := .tmp 90) rfl (wants_all rfl) rfl (opnd_op 3 90 (by kernel_rfl) rfl) rfl (fun ρ w h1 => part_row1 ρ _ _ w _ h1)
    · exact owe_sload rfl (wants_all rfl) rfl (opnd_op 4 91 (by kernel_rfl) rfl) (k := 0) rfl (j := 4) rfl (by kernel_rfl) rfl load1_sl rfl
    · exact owe_move rfl (wants_all rfl) (Or.inl rfl) (opnd_slot 1 5 rfl (by kernel_rfl)) rfl
    · exact owe_un (x := .tmp 87) rfl (wants_all rfl) rfl (opnd_op 0 87 (by kernel_rfl) rfl) rfl (fun ρ w h1 => run_nilc ρ _ _ w _ h1)
    · exact owe_un (x := .tmp 94) rfl (wants_all rfl) rfl (opnd_op 7 94 (by kernel_rfl) rfl) rfl (fun ρ w h1 => part_row0 ρ _ _ w _ h1)
    · exact owe_sput rfl (wants_all rfl) rfl (opnd_op 8 95 (by kernel_rfl) rfl) (k := 0) rfl (j := 4) rfl (by kernel_rfl) (opnd_op 5 92 (by kernel_rfl) rfl) flat_ne (Nat.le_of_ble_eq_true rfl) store1_sl rfl
    · exact owe_un (x := .tmp 88) rfl (wants_all rfl) rfl (opnd_op 1 88 (by kernel_rfl) rfl) rfl (fun ρ w h1 => run_nilc ρ _ _ w _ h1)
    · exact owe_un (x := .tmp 96) rfl (wants_all rfl) rfl (opnd_op 10 96 (by kernel_rfl) rfl) rfl (fun ρ w h1 => part_row1 ρ _ _ w _ h1)
    · exact owe_sput2 9 rfl (wants_all rfl) rfl (opnd_op 11 97 (by kernel_rfl) rfl) (by kernel_rfl) rfl (j := 4) rfl (opnd_op 6 93 (by kernel_rfl) rfl) flat_nn (Nat.le_of_ble_eq_true rfl) store1_sl rfl
  intro B5 a5 W5 S5
  replace S5 : Sta w0 127 [(0, (.box 68 (SF [(NE vb b), ((NN (A % b)) w.heap.size), (NE vx X), (NE vy Y), (Is (.bool mn))]))), (2, (.box 75 ((SVF A b (lk A b)) w.heap.size)))] [(4, ((NN (A / b)) w.heap.size)), (25, (Is (.bool false))), (12, (Is (.bool true))), (0, (Is (.pointer (some ⟨g, 0, none⟩)))), (0, (Keep (fun k => k = g) w))] B5 a5 W5 := S5
  refine wp_stmt_seq [.val (Is (.pointer (some ⟨g, 0, none⟩))),
      .val (Is (.pointer (some ⟨g, 0, none⟩))),
      .val (Is (.pointer (some ⟨g, 0, none⟩))),
      .val (Is (.pointer (some ⟨g, 0, none⟩))),
      .val (Is (.pointer (some ⟨g, 3, none⟩))),
      .val (NE vy Y),
      .val (Is (.pointer (some ⟨g, 0, none⟩))),
      .val (Is (.pointer (some ⟨g, 0, none⟩))),
      .val (Is (.pointer (some ⟨g, 2, none⟩))),
      .val (NE vx X),
      .val ((NN (A / b)) w.heap.size),
      .val (Is (.pointer (some ⟨g, 0, none⟩))),
      .val (Is (.pointer (some ⟨g, 0, none⟩))),
      .val (Is (.pointer (some ⟨g, 3, none⟩))),
      .val (NE vy Y),
      .val ((NN ((A / b) * Y)) w.heap.size),
      .val ((NN (X + ((A / b) * Y))) w.heap.size),
      .val (Is (.pointer (some ⟨g, 0, none⟩))),
      .val (Is (.pointer (some ⟨g, 2, none⟩))),
      .put (.inl 0) (.box 68 (SF [(NE vb b), ((NN (A % b)) w.heap.size), (NE vy Y), (NE vy Y), (Is (.bool mn))])),
      .val (Is (.pointer (some ⟨g, 0, none⟩))),
      .val (Is (.pointer (some ⟨g, 3, none⟩))),
      .put (.inl 0) (.box 68 (SF [(NE vb b), ((NN (A % b)) w.heap.size), (NE vy Y), ((NN (X + ((A / b) * Y))) w.heap.size), (Is (.bool mn))]))] [.inr 0, .inr 1] [.inr 1, .inr 2, .inr 3, .inr 4] follows S5 rfl (by kernel_rfl) ?_ ?_
  · refine ⟨⟨⟨⟨⟨⟨⟨⟨⟨⟨⟨⟨⟨⟨⟨⟨⟨⟨⟨⟨⟨⟨⟨trivial, ?_⟩, ?_⟩, ?_⟩, ?_⟩, ?_⟩, ?_⟩, ?_⟩, ?_⟩, ?_⟩, ?_⟩, ?_⟩, ?_⟩, ?_⟩, ?_⟩, ?_⟩, ?_⟩, ?_⟩, ?_⟩, ?_⟩, ?_⟩, ?_⟩, ?_⟩, ?_⟩
    · exact owe_move rfl (wants_all rfl) (Or.inl rfl) (opnd_slot 3 0 rfl (by kernel_rfl)) rfl
    · exact owe_move rfl (wants_all rfl) (Or.inl rfl) (opnd_slot 3 0 rfl (by kernel_rfl)) rfl
    · exact owe_move rfl (wants_all rfl) (Or.inl rfl) (opnd_slot 3 0 rfl (by kernel_rfl)) rfl
    · exact owe_un (x := .tmp 100) rfl (wants_all rfl) rfl (opnd_op 2 100 (by kernel_rfl) rfl) rfl (fun ρ w h1 => run_nilc ρ _ _ w _ h1)
    · exact owe_un (x := .tmp 101) rfl (wants_all rfl) rfl (opnd_op 3 101 (by kernel_rfl) rfl) rfl (fun ρ w h1 => part_row3 ρ _ _ w _ h1)
    · exact owe_sload rfl (wants_all rfl) rfl (opnd_op 4 102 (by kernel_rfl) rfl) (k := 0) rfl (j := 3) rfl (by kernel_rfl) rfl load1_sl rfl
    · exact owe_move rfl (wants_all rfl) (Or.inl rfl) (opnd_slot 3 0 rfl (by kernel_rfl)) rfl
    · exact owe_un (x := .tmp 104) rfl (wants_all rfl) rfl (opnd_op 6 104 (by kernel_rfl) rfl) rfl (fun ρ w h1 => run_nilc ρ _ _ w _ h1)
    · exact owe_un (x := .tmp 105) rfl (wants_all rfl) rfl (opnd_op 7 105 (by kernel_rfl) rfl) rfl (fun ρ w h1 => part_row2 ρ _ _ w _ h1)
    · exact owe_sload rfl (wants_all rfl) rfl (opnd_op 8 106 (by kernel_rfl) rfl) (k := 0) rfl (j := 3) rfl (by kernel_rfl) rfl load1_sl rfl
    · exact owe_move rfl (wants_all rfl) (Or.inl rfl) (opnd_slot 0 4 rfl (by kernel_rfl)) rfl
    · exact owe_move rfl (wants_all rfl) (Or.inl rfl) (opnd_slot 3 0 rfl (by kernel_rfl)) rfl
    · exact owe_un (x := .tmp 109) rfl (wants_all rfl) rfl (opnd_op 11 109 (by kernel_rfl) rfl) rfl (fun ρ w h1 => run_nilc ρ _ _ w _ h1)
    · exact owe_un (x := .tmp 110) rfl (wants_all rfl) rfl (opnd_op 12 110 (by kernel_rfl) rfl) rfl (fun ρ w h1 => part_row3 ρ _ _ w _ h1)
    · exact owe_sload rfl (wants_all rfl) rfl (opnd_op 13 111 (by kernel_rfl) rfl) (k := 0) rfl (j := 3) rfl (by kernel_rfl) rfl load1_sl rfl
    · exact owe_call2K rfl (wants_all rfl) rfl (opnd_op 10 108 (by kernel_rfl) rfl) (opnd_op 14 112 (by kernel_rfl) rfl) (fresh_nn _) (opnd_slot 4 0 rfl (by kernel_rfl)) rfl (fun args w => by go_simp) (fun w u v h1 h2 => g_mul (by omega) w u v ((nn_nv dq) _ _ h1) ((ne_nv (Nat.le_refl _)) _ _ h2))
    · exact owe_call2K rfl (wants_all rfl) rfl (opnd_op 9 107 (by kernel_rfl) rfl) (opnd_op 15 113 (by kernel_rfl) rfl) (fresh_nn _) (opnd_slot 4 0 rfl (by kernel_rfl)) rfl (fun args w => by go_simp) (fun w u v h1 h2 => g_add (by omega) (by omega) w u v ((ne_nv (Nat.le_refl _)) _ _ h1) ((nn_nv dqy) _ _ h2))
    · exact owe_un (x := .tmp 98) rfl (wants_all rfl) rfl (opnd_op 0 98 (by kernel_rfl) rfl) rfl (fun ρ w h1 => run_nilc ρ _ _ w _ h1)
    · exact owe_un (x := .tmp 115) rfl (wants_all rfl) rfl (opnd_op 17 115 (by kernel_rfl) rfl) rfl (fun ρ w h1 => part_row2 ρ _ _ w _ h1)
    · exact owe_sput rfl (wants_all rfl) rfl (opnd_op 18 116 (by kernel_rfl) rfl) (k := 0) rfl (j := 3) rfl (by kernel_rfl) (opnd_op 5 103 (by kernel_rfl) rfl) flat_ne (Nat.le_of_ble_eq_true rfl) store1_sl rfl
    · exact owe_un (x := .tmp 99) rfl (wants_all rfl) rfl (opnd_op 1 99 (by kernel_rfl) rfl) rfl (fun ρ w h1 => run_nilc ρ _ _ w _ h1)
    · exact owe_un (x := .tmp 117) rfl (wants_all rfl) rfl (opnd_op 20 117 (by kernel_rfl) rfl) rfl (fun ρ w h1 => part_row3 ρ _ _ w _ h1)
    · exact owe_sput2 19 rfl (wants_all rfl) rfl (opnd_op 21 118 (by kernel_rfl) rfl) (by kernel_rfl) rfl (j := 3) rfl (opnd_op 16 114 (by kernel_rfl) rfl) flat_nn (Nat.le_of_ble_eq_true rfl) store1_sl rfl
  intro B6 a6 W6 S6
  replace S6 : Sta w0 127 [(0, (.box 68 (SF [(NE vb b), ((NN (A % b)) w.heap.size), (NE vy Y), ((NN (X + ((A / b) * Y))) w.heap.size), (Is (.bool mn))]))), (2, (.box 75 ((SVF A b (lk A b)) w.heap.size)))] [(25, (Is (.bool false))), (12, (Is (.bool true))), (0, (Is (.pointer (some ⟨g, 0, none⟩)))), (0, (Keep (fun k => k = g) w))] B6 a6 W6 := S6
  refine wp_stmt [.val (Is (.pointer (some ⟨g, 0, none⟩))),
      .val (Is (.pointer (some ⟨g, 0, none⟩))),
      .val (Is (.pointer (some ⟨g, 0, none⟩))),
      .val (Is (.pointer (some ⟨g, 4, none⟩))),
      .val (Is (.bool mn)),
      .val (Is (.bool (!mn))),
      .val (Is (.pointer (some ⟨g, 0, none⟩))),
      .val (Is (.pointer (some ⟨g, 4, none⟩))),
      .put (.inl 0) (.box 68 (SF [(NE vb b), ((NN (A % b)) w.heap.size), (NE vy Y), ((NN (X + ((A / b) * Y))) w.heap.size), (Is (.bool (!mn)))]))] [.inr 0, .inr 1] [.inr 0, .inr 1, .inr 2, .inr 3] follows S6 rfl (by kernel_rfl) ?_ ?_
  · refine ⟨⟨⟨⟨⟨⟨⟨⟨⟨trivial, ?_⟩, ?_⟩, ?_⟩, ?_⟩, ?_⟩, ?_⟩, ?_⟩, ?_⟩, ?_⟩
    · exact owe_move rfl (wants_all rfl) (Or.inl rfl) (opnd_slot 2 0 rfl (by kernel_rfl)) rfl
    · exact owe_move rfl (wants_all rfl) (Or.inl rfl) (opnd_slot 2 0 rfl (by kernel_rfl)) rfl
    · exact owe_un (x := .tmp 120) rfl (wants_all rfl) rfl (opnd_op 1 120 (by kernel_rfl) rfl) rfl (fun ρ w h1 => run_nilc ρ _ _ w _ h1)
    · exact owe_un (x := .tmp 121) rfl (wants_all rfl) rfl (opnd_op 2 121 (by kernel_rfl) rfl) rfl (fun ρ w h1 => part_row4 ρ _ _ w _ h1)
    · exact owe_sload rfl (wants_all rfl) rfl (opnd_op 3 122 (by kernel_rfl) rfl) (k := 0) rfl (j := 2) rfl (by kernel_rfl) rfl load1_bool rfl
    · exact owe_un (x := .tmp 123) rfl (wants_all rfl) rfl (opnd_op 4 123 (by kernel_rfl) rfl) rfl (fun ρ w h1 => run_not ρ _ _ w _ h1)
    · exact owe_un (x := .tmp 119) rfl (wants_all rfl) rfl (opnd_op 0 119 (by kernel_rfl) rfl) rfl (fun ρ w h1 => run_nilc ρ _ _ w _ h1)
    · exact owe_un (x := .tmp 125) rfl (wants_all rfl) rfl (opnd_op 6 125 (by kernel_rfl) rfl) rfl (fun ρ w h1 => part_row4 ρ _ _ w _ h1)
    · exact owe_sput rfl (wants_all rfl) rfl (opnd_op 7 126 (by kernel_rfl) rfl) (k := 0) rfl (j := 2) rfl (by kernel_rfl) (opnd_op 5 124 (by kernel_rfl) rfl) flat_bool (Nat.le_of_ble_eq_true rfl) store1_bool rfl
  intro B7 a7 W7 S7
  replace S7 : Sta w0 127 [(0, (.box 68 (SF [(NE vb b), ((NN (A % b)) w.heap.size), (NE vy Y), ((NN (X + ((A / b) * Y))) w.heap.size), (Is (.bool (!mn)))]))), (2, (.box 75 ((SVF A b (lk A b)) w.heap.size)))] [(25, (Is (.bool false))), (12, (Is (.bool true))), (0, (Is (.pointer (some ⟨g, 0, none⟩)))), (0, (Keep (fun k => k = g) w))] B7 a7 W7 := S7
  refine (end_none S7 rfl ?_).1
  obtain ⟨v1, e1, f1⟩ := S7.content_at 0 0 rfl 2 rfl
  obtain ⟨b2, u2, _, _, f2⟩ := S7.content 1 2 rfl
  exact ⟨rfl, S7.slot 3 0 rfl, v1, e1, f1, f2.2⟩

set_option maxHeartbeats 400000 in
theorem next_l (w w0 : World) (g A b X Y : Nat) (mn : Bool) (va vb vx vy u : Value) (hcut : Below w0.heap.size w0 w) (hB : ∀ k, (fun k => k = g) k → w0.heap.size ≤ k ∧ k < w.heap.size) (h1 : w.heap[g]? = some (.cells u.cells 68 (0, 0))) (hu : Has (fun k => k = g) w (SF [NE va A, NE vb b, NE vx X, NE vy Y, Is (.bool mn)]) u) (hb : b ≠ 0) (hle : b ≤ A) (sA : (digs A).length ≤ 1099511627776) (sX : (digs X).length ≤ 1099511627776) (sY : (digs Y).length ≤ 1099511627776) (h3 : 3 ≤ (digs b).length) (hV : (lk A b).2.1 ≠ 0) :
    Calls Tryd.prog 42 #[.pointer (some ⟨g, 0, none⟩)] w (fun e w' => e = .returned (.tuple #[]) ∧ Ev (fun k => k = g) w w' ∧ ∃ u' : Value, w'.heap[g]? = some (.cells u'.cells 68 (0, 0)) ∧ (SF [((NN (raA A b (lk A b))) w.heap.size), ((NN (raB A b (lk A b))) w.heap.size), ((NN (shX X Y (lk A b))) w.heap.size), ((NN (shY X Y (lk A b))) w.heap.size), (Is (.bool (mn != (lk A b).2.2.2.2)))]) u' w' ∧ Stp A b (lk A b)) := by
  have hV2 : (!decide ((lk A b).2.1 = 0)) = true := by simp [hV]
  refine calls_own (bx := [(0, (.box 68 (SF [(NE va A), (NE vb b), (NE vx X), (NE vy Y), (Is (.bool mn))])))]) (sl := [(0, (Is (.pointer (some ⟨g, 0, none⟩))))]) (B := (fun k => k = g)) Tryd.func42 rfl Tryd.ntmps42 (by simp) hcut hB (by simp only [List.mem_cons, List.not_mem_nil, or_false, forall_eq]; exact ⟨_, rfl, g, u, rfl, rfl, h1, hu⟩) (by simp) (by simp only [List.mem_cons, List.not_mem_nil, or_false, forall_eq]; exact ⟨_, rfl, fun _ _ => rfl⟩) ?_
  intro a0 S0
  replace S0 : Sta w0 127 [(0, (.box 68 (SF [(NE va A), (NE vb b), (NE vx X), (NE vy Y), (Is (.bool mn))])))] [(0, (Is (.pointer (some ⟨g, 0, none⟩)))), (0, (Keep (fun k => k = g) w))] (fun k => k = g) a0 w := S0
  obtain ⟨B0, hB0⟩ : ∃ B, B = (fun k => k = g) := ⟨_, rfl⟩
  refine wp_seq ?_
  refine wp_stmt_seq [.val (Is (.pointer (some ⟨g, 0, none⟩))),
      .val (Is (.pointer (some ⟨g, 0, none⟩))),
      .val (Is (.pointer (some ⟨g, 1, none⟩))),
      .val (NE vb b),
      .val (Is (.int .i64 ((digs b).length : Nat))),
      .val (Is (.bool true))] [.inr 0] [.inl 5, .inr 0, .inr 1] follows S0 rfl (by kernel_rfl) ?_ ?_
  · refine ⟨⟨⟨⟨⟨⟨trivial, ?_⟩, ?_⟩, ?_⟩, ?_⟩, ?_⟩, ?_⟩
    · exact owe_move rfl (wants_all rfl) (Or.inl rfl) (opnd_slot 0 0 rfl (by kernel_rfl)) rfl
    · exact owe_un (x := .tmp 7) rfl (wants_all rfl) rfl (opnd_op 0 7 (by kernel_rfl) rfl) rfl (fun ρ w h1 => run_nilc ρ _ _ w _ h1)
    · exact owe_un (x := .tmp 8) rfl (wants_all rfl) rfl (opnd_op 1 8 (by kernel_rfl) rfl) rfl (fun ρ w h1 => part_row1 ρ _ _ w _ h1)
    · exact owe_sload rfl (wants_all rfl) rfl (opnd_op 2 9 (by kernel_rfl) rfl) (k := 0) rfl (j := 0) rfl (by kernel_rfl) rfl load1_sl rfl
    · exact owe_len rfl (wants_all rfl) rfl (opnd_op 3 10 (by kernel_rfl) rfl) ne_len Tryd.underlying22 rfl
    · exact owe_bin rfl (wants_all rfl) rfl (opnd_op 4 11 (by kernel_rfl) rfl) (opnd_const _) rfl (fun ρ w h1 h2 => by exact run_geq_int_t ρ _ _ _ w _ _ (by omega) h1 h2)
  intro B1 a1 W1 S1
  replace S1 : Sta w0 127 [(0, (.box 68 (SF [(NE va A), (NE vb b), (NE vx X), (NE vy Y), (Is (.bool mn))])))] [(12, (Is (.bool true))), (0, (Is (.pointer (some ⟨g, 0, none⟩)))), (0, (Keep (fun k => k = g) w))] B1 a1 W1 := S1
  refine wp_cond_true (S1.bool 0 12 rfl) ?_
  refine wp_stmt_seq [.val (Is (.pointer (some ⟨g, 0, none⟩))),
      .val (Is (.pointer (some ⟨g, 0, none⟩))),
      .val (Is (.pointer (some ⟨g, 0, none⟩))),
      .val (NE va A),
      .val (Is (.pointer (some ⟨g, 0, none⟩))),
      .val (Is (.pointer (some ⟨g, 0, none⟩))),
      .val (Is (.pointer (some ⟨g, 1, none⟩))),
      .val (NE vb b),
      .val ((TWO (SVF A b (lk A b)) (IS (.bool true))) w.heap.size),
      .val ((TWO (SVF A b (lk A b)) (IS (.bool true))) w.heap.size),
      .val ((SVF A b (lk A b)) w.heap.size),
      .val (Is (.bool true)),
      .new (.box 75 (Is (.agg #[.int .u64 0, .int .u64 0, .int .u64 0, .int .u64 0, .bool false]))),
      .put (.inr 12) (.box 75 ((SVF A b (lk A b)) w.heap.size)),
      .val (Is (.bool true))] [.inr 0, .inl 12] [.inl 14, .inr 0, .inr 1, .inr 2] follows S1 rfl (by kernel_rfl) ?_ ?_
  · refine ⟨⟨⟨⟨⟨⟨⟨⟨⟨⟨⟨⟨⟨⟨⟨trivial, ?_⟩, ?_⟩, ?_⟩, ?_⟩, ?_⟩, ?_⟩, ?_⟩, ?_⟩, ?_⟩, ?_⟩, ?_⟩, ?_⟩, ?_⟩, ?_⟩, ?_⟩
    · exact owe_move rfl (wants_all rfl) (Or.inl rfl) (opnd_slot 1 0 rfl (by kernel_rfl)) rfl
    · exact owe_un (x := .tmp 14) rfl (wants_all rfl) rfl (opnd_op 0 14 (by kernel_rfl) rfl) rfl (fun ρ w h1 => run_nilc ρ _ _ w _ h1)
    · exact owe_un (x := .tmp 15) rfl (wants_all rfl) rfl (opnd_op 1 15 (by kernel_rfl) rfl) rfl (fun ρ w h1 => part_row0 ρ _ _ w _ h1)
    · exact owe_sload rfl (wants_all rfl) rfl (opnd_op 2 16 (by kernel_rfl) rfl) (k := 0) rfl (j := 1) rfl (by kernel_rfl) rfl load1_sl rfl
    · exact owe_move rfl (wants_all rfl) (Or.inl rfl) (opnd_slot 1 0 rfl (by kernel_rfl)) rfl
    · exact owe_un (x := .tmp 18) rfl (wants_all rfl) rfl (opnd_op 4 18 (by kernel_rfl) rfl) rfl (fun ρ w h1 => run_nilc ρ _ _ w _ h1)
    · exact owe_un (x := .tmp 19) rfl (wants_all rfl) rfl (opnd_op 5 19 (by kernel_rfl) rfl) rfl (fun ρ w h1 => part_row1 ρ _ _ w _ h1)
    · exact owe_sload rfl (wants_all rfl) rfl (opnd_op 6 20 (by kernel_rfl) rfl) (k := 0) rfl (j := 1) rfl (by kernel_rfl) rfl load1_sl rfl
    · exact owe_call2K rfl (wants_all rfl) rfl (opnd_op 3 17 (by kernel_rfl) rfl) (opnd_op 7 21 (by kernel_rfl) rfl) (fresh_two (fresh_sv _ _ _) (fresh_is _)) (opnd_slot 2 0 rfl (by kernel_rfl)) rfl (fun args w => by go_simp) (fun w u0 u1 h0 h1 => Gives.cast ((fun w u v h1 h2 => g_look h3 hle (by omega) w u v (ne_nn _ _ h1) (ne_nn _ _ h2)) w u0 u1 h0 h1) (by rw [hV2]))
    · exact owe_move rfl (wants_all rfl) (Or.inl rfl) (opnd_op 8 22 (by kernel_rfl) rfl) rfl
    · exact owe_ext2 rfl (wants_all rfl) rfl (opnd_op 9 13 (by kernel_rfl) rfl) (Or.inl ⟨rfl, rfl⟩) rfl
    · exact owe_ext2 rfl (wants_all rfl) rfl (opnd_op 9 13 (by kernel_rfl) rfl) (Or.inr ⟨rfl, rfl⟩) rfl
    · exact owe_new rfl (wants_all rfl) rfl rfl (fun ρ w => alloc_steps ρ _ w)
    · exact owe_put 12 rfl (wants_all rfl) rfl (by kernel_rfl) rfl (opnd_op 10 23 (by kernel_rfl) rfl) (stores_of strct_steps shp_s0 shp_sv) rfl
    · exact owe_move rfl (wants_all rfl) (Or.inr rfl) (opnd_op 11 24 (by kernel_rfl) rfl) rfl
  intro B2 a2 W2 S2
  replace S2 : Sta w0 127 [(0, (.box 68 (SF [(NE va A), (NE vb b), (NE vx X), (NE vy Y), (Is (.bool mn))]))), (2, (.box 75 ((SVF A b (lk A b)) w.heap.size)))] [(3, (Is (.bool true))), (12, (Is (.bool true))), (0, (Is (.pointer (some ⟨g, 0, none⟩)))), (0, (Keep (fun k => k = g) w))] B2 a2 W2 := S2
  refine wp_stmt_seq [.val (Is (.bool true))] [.inr 0, .inr 1] [.inl 0, .inr 1, .inr 2, .inr 3] follows S2 rfl (by kernel_rfl) ?_ ?_
  · refine ⟨trivial, ?_⟩
    · exact owe_move rfl (wants_all rfl) (Or.inl rfl) (opnd_slot 0 3 rfl (by kernel_rfl)) rfl
  intro B3 a3 W3 S3
  replace S3 : Sta w0 127 [(0, (.box 68 (SF [(NE va A), (NE vb b), (NE vx X), (NE vy Y), (Is (.bool mn))]))), (2, (.box 75 ((SVF A b (lk A b)) w.heap.size)))] [(25, (Is (.bool true))), (12, (Is (.bool true))), (0, (Is (.pointer (some ⟨g, 0, none⟩)))), (0, (Keep (fun k => k = g) w))] B3 a3 W3 := S3
  refine wp_cond_true (S3.bool 0 25 rfl) ?_
  refine wp_stmt_seq [.val (Is (.pointer (some ⟨g, 0, none⟩))),
      .val (Is (.pointer (some ⟨g, 0, none⟩))),
      .val ((SVF A b (lk A b)) w.heap.size),
      .val (Is (.pointer (some ⟨g, 0, none⟩))),
      .val (Is (.pointer (some ⟨g, 0, none⟩))),
      .val (Is (.pointer (some ⟨g, 0, none⟩))),
      .val (NE va A),
      .val (Is (.pointer (some ⟨g, 0, none⟩))),
      .val (Is (.pointer (some ⟨g, 0, none⟩))),
      .val (Is (.pointer (some ⟨g, 1, none⟩))),
      .val (NE vb b),
      .val ((TWO (NN (raA A b (lk A b))) (NN (raB A b (lk A b)))) w.heap.size),
      .val ((TWO (NN (raA A b (lk A b))) (NN (raB A b (lk A b)))) w.heap.size),
      .val ((NN (raA A b (lk A b))) w.heap.size),
      .val ((NN (raB A b (lk A b))) w.heap.size),
      .val (Is (.pointer (some ⟨g, 0, none⟩))),
      .val (Is (.pointer (some ⟨g, 0, none⟩))),
      .put (.inl 0) (.box 68 (SF [((NN (raA A b (lk A b))) w.heap.size), (NE vb b), (NE vx X), (NE vy Y), (Is (.bool mn))])),
      .val (Is (.pointer (some ⟨g, 0, none⟩))),
      .val (Is (.pointer (some ⟨g, 1, none⟩))),
      .put (.inl 0) (.box 68 (SF [((NN (raA A b (lk A b))) w.heap.size), ((NN (raB A b (lk A b))) w.heap.size), (NE vx X), (NE vy Y), (Is (.bool mn))]))] [.inr 0, .inr 1] [.inr 0, .inr 1, .inr 2, .inr 3] follows S3 rfl (by kernel_rfl) ?_ ?_
  · refine ⟨⟨⟨⟨⟨⟨⟨⟨⟨⟨⟨⟨⟨⟨⟨⟨⟨⟨⟨⟨⟨trivial, ?_⟩, ?_⟩, ?_⟩, ?_⟩, ?_⟩, ?_⟩, ?_⟩, ?_⟩, ?_⟩, ?_⟩, ?_⟩, ?_⟩, ?_⟩, ?_⟩, ?_⟩, ?_⟩, ?_⟩, ?_⟩, ?_⟩, ?_⟩, ?_⟩
    · exact owe_move rfl (wants_all rfl) (Or.inl rfl) (opnd_slot 2 0 rfl (by kernel_rfl)) rfl
    · exact owe_move rfl (wants_all rfl) (Or.inl rfl) (opnd_slot 2 0 rfl (by kernel_rfl)) rfl
    · exact owe_load rfl (wants_all rfl) rfl (k := 1) rfl (by kernel_rfl) (loads_of strct_steps shp_sv) rfl
    · exact owe_move rfl (wants_all rfl) (Or.inl rfl) (opnd_slot 2 0 rfl (by kernel_rfl)) rfl
    · exact owe_un (x := .tmp 30) rfl (wants_all rfl) rfl (opnd_op 3 30 (by kernel_rfl) rfl) rfl (fun ρ w h1 => run_nilc ρ _ _ w _ h1)
    · exact owe_un (x := .tmp 31) rfl (wants_all rfl) rfl (opnd_op 4 31 (by kernel_rfl) rfl) rfl (fun ρ w h1 => part_row0 ρ _ _ w _ h1)
    · exact owe_sload rfl (wants_all rfl) rfl (opnd_op 5 32 (by kernel_rfl) rfl) (k := 0) rfl (j := 2) rfl (by kernel_rfl) rfl load1_sl rfl
    · exact owe_move rfl (wants_all rfl) (Or.inl rfl) (opnd_slot 2 0 rfl (by kernel_rfl)) rfl
    · exact owe_un (x := .tmp 34) rfl (wants_all rfl) rfl (opnd_op 7 34 (by kernel_rfl) rfl) rfl (fun ρ w h1 => run_nilc ρ _ _ w _ h1)
    · exact owe_un (x := .tmp 35) rfl (wants_all rfl) rfl (opnd_op 8 35 (by kernel_rfl) rfl) rfl (fun ρ w h1 => part_row1 ρ _ _ w _ h1)
    · exact owe_sload rfl (wants_all rfl) rfl (opnd_op 9 36 (by kernel_rfl) rfl) (k := 0) rfl (j := 2) rfl (by kernel_rfl) rfl load1_sl rfl
    · exact owe_call3K rfl (wants_all rfl) rfl (opnd_op 2 29 (by kernel_rfl) rfl) (opnd_op 6 33 (by kernel_rfl) rfl) (opnd_op 10 37 (by kernel_rfl) rfl) (fresh_two (fresh_nn _) (fresh_nn _)) (opnd_slot 3 0 rfl (by kernel_rfl)) rfl (fun args w => by go_simp) (fun w t u v h0 h1 h2 => g_rests hV hle (by omega) w t u v h0 (ne_nn _ _ h1) (ne_nn _ _ h2))
    · exact owe_move rfl (wants_all rfl) (Or.inl rfl) (opnd_op 11 38 (by kernel_rfl) rfl) rfl
    · exact owe_ext2 rfl (wants_all rfl) rfl (opnd_op 12 26 (by kernel_rfl) rfl) (Or.inl ⟨rfl, rfl⟩) rfl
    · exact owe_ext2 rfl (wants_all rfl) rfl (opnd_op 12 26 (by kernel_rfl) rfl) (Or.inr ⟨rfl, rfl⟩) rfl
    · exact owe_un (x := .tmp 27) rfl (wants_all rfl) rfl (opnd_op 0 27 (by kernel_rfl) rfl) rfl (fun ρ w h1 => run_nilc ρ _ _ w _ h1)
    · exact owe_un (x := .tmp 41) rfl (wants_all rfl) rfl (opnd_op 15 41 (by kernel_rfl) rfl) rfl (fun ρ w h1 => part_row0 ρ _ _ w _ h1)
    · exact owe_sput rfl (wants_all rfl) rfl (opnd_op 16 42 (by kernel_rfl) rfl) (k := 0) rfl (j := 2) rfl (by kernel_rfl) (opnd_op 13 39 (by kernel_rfl) rfl) flat_nn (Nat.le_of_ble_eq_true rfl) store1_sl rfl
    · exact owe_un (x := .tmp 28) rfl (wants_all rfl) rfl (opnd_op 1 28 (by kernel_rfl) rfl) rfl (fun ρ w h1 => run_nilc ρ _ _ w _ h1)
    · exact owe_un (x := .tmp 43) rfl (wants_all rfl) rfl (opnd_op 18 43 (by kernel_rfl) rfl) rfl (fun ρ w h1 => part_row1 ρ _ _ w _ h1)
    · exact owe_sput2 17 rfl (wants_all rfl) rfl (opnd_op 19 44 (by kernel_rfl) rfl) (by kernel_rfl) rfl (j := 2) rfl (opnd_op 14 40 (by kernel_rfl) rfl) flat_nn (Nat.le_of_ble_eq_true rfl) store1_sl rfl
  intro B4 a4 W4 S4
  replace S4 : Sta w0 127 [(0, (.box 68 (SF [((NN (raA A b (lk A b))) w.heap.size), ((NN (raB A b (lk A b))) w.heap.size), (NE vx X), (NE vy Y), (Is (.bool mn))]))), (2, (.box 75 ((SVF A b (lk A b)) w.heap.size)))] [(25, (Is (.bool true))), (12, (Is (.bool true))), (0, (Is (.pointer (some ⟨g, 0, none⟩)))), (0, (Keep (fun k => k = g) w))] B4 a4 W4 := S4
  refine wp_stmt_seq [.val (Is (.pointer (some ⟨g, 0, none⟩))),
      .val (Is (.pointer (some ⟨g, 0, none⟩))),
      .val ((SVF A b (lk A b)) w.heap.size),
      .val (Is (.pointer (some ⟨g, 0, none⟩))),
      .val (Is (.pointer (some ⟨g, 0, none⟩))),
      .val (Is (.pointer (some ⟨g, 2, none⟩))),
      .val (NE vx X),
      .val (Is (.pointer (some ⟨g, 0, none⟩))),
      .val (Is (.pointer (some ⟨g, 0, none⟩))),
      .val (Is (.pointer (some ⟨g, 3, none⟩))),
      .val (NE vy Y),
      .val ((TWO (NN (shX X Y (lk A b))) (NN (shY X Y (lk A b)))) w.heap.size),
      .val ((TWO (NN (shX X Y (lk A b))) (NN (shY X Y (lk A b)))) w.heap.size),
      .val ((NN (shX X Y (lk A b))) w.heap.size),
      .val ((NN (shY X Y (lk A b))) w.heap.size),
      .val (Is (.pointer (some ⟨g, 0, none⟩))),
      .val (Is (.pointer (some ⟨g, 2, none⟩))),
      .put (.inl 0) (.box 68 (SF [((NN (raA A b (lk A b))) w.heap.size), ((NN (raB A b (lk A b))) w.heap.size), ((NN (shX X Y (lk A b))) w.heap.size), (NE vy Y), (Is (.bool mn))])),
      .val (Is (.pointer (some ⟨g, 0, none⟩))),
      .val (Is (.pointer (some ⟨g, 3, none⟩))),
      .put (.inl 0) (.box 68 (SF [((NN (raA A b (lk A b))) w.heap.size), ((NN (raB A b (lk A b))) w.heap.size), ((NN (shX X Y (lk A b))) w.heap.size), ((NN (shY X Y (lk A b))) w.heap.size), (Is (.bool mn))]))] [.inr 0, .inr 1] [.inr 0, .inr 1, .inr 2, .inr 3] follows S4 rfl (by kernel_rfl) ?_ ?_
  · refine ⟨⟨⟨⟨⟨⟨⟨⟨⟨⟨⟨⟨⟨⟨⟨⟨⟨⟨⟨⟨⟨trivial, ?_⟩, ?_⟩, ?_⟩, ?_⟩, ?_⟩, ?_⟩, ?_⟩, ?_⟩, ?_⟩, ?_⟩, ?_⟩, ?_⟩, ?_⟩, ?_⟩, ?_⟩, ?_⟩, ?_⟩, ?_⟩, ?_⟩, ?_⟩, ?_⟩
    · exact owe_move rfl (wants_all rfl) (Or.inl rfl) (opnd_slot 2 0 rfl (by kernel_rfl)) rfl
    · exact owe_move rfl (wants_all rfl) (Or.inl rfl) (opnd_slot 2 0 rfl (by kernel_rfl)) rfl
    · exact owe_load rfl (wants_all rfl) rfl (k := 1) rfl (by kernel_rfl) (loads_of strct_steps shp_sv) rfl
    · exact owe_move rfl (wants_all rfl) (Or.inl rfl) (opnd_slot 2 0 rfl (by kernel_rfl)) rfl
    · exact owe_un (x := .tmp 49) rfl (wants_all rfl) rfl (opnd_op 3 49 (by kernel_rfl) rfl) rfl (fun ρ w h1 => run_nilc ρ _ _ w _ h1)
    · exact owe_un (x := .tmp 50) rfl (wants_all rfl) rfl (opnd_op 4 50 (by kernel_rfl) rfl) rfl (fun ρ w h1 => part_row2 ρ _ _ w _ h1)
    · exact owe_sload rfl (wants_all rfl) rfl (opnd_op 5 51 (by kernel_rfl) rfl) (k := 0) rfl (j := 2) rfl (by kernel_rfl) rfl load1_sl rfl
    · exact owe_move rfl (wants_all rfl) (Or.inl rfl) (opnd_slot 2 0 rfl (by kernel_rfl)) rfl
    · exact owe_un (x := .tmp 53) rfl (wants_all rfl) rfl (opnd_op 7 53 (by kernel_rfl) rfl) rfl (fun ρ w h1 => run_nilc ρ _ _ w _ h1)
    · exact owe_un (x := .tmp 54) rfl (wants_all rfl) rfl (opnd_op 8 54 (by kernel_rfl) rfl) rfl (fun ρ w h1 => part_row3 ρ _ _ w _ h1)
    · exact owe_sload rfl (wants_all rfl) rfl (opnd_op 9 55 (by kernel_rfl) rfl) (k := 0) rfl (j := 2) rfl (by kernel_rfl) rfl load1_sl rfl
    · exact owe_call3K rfl (wants_all rfl) rfl (opnd_op 2 48 (by kernel_rfl) rfl) (opnd_op 6 52 (by kernel_rfl) rfl) (opnd_op 10 56 (by kernel_rfl) rfl) (fresh_two (fresh_nn _) (fresh_nn _)) (opnd_slot 3 0 rfl (by kernel_rfl)) rfl (fun args w => by go_simp) (fun w t u v h0 h1 h2 => g_shares (by omega) (by omega) w t u v h0 (ne_nn _ _ h1) (ne_nn _ _ h2))
    · exact owe_move rfl (wants_all rfl) (Or.inl rfl) (opnd_op 11 57 (by kernel_rfl) rfl) rfl
    · exact owe_ext2 rfl (wants_all rfl) rfl (opnd_op 12 45 (by kernel_rfl) rfl) (Or.inl ⟨rfl, rfl⟩) rfl
    · exact owe_ext2 rfl (wants_all rfl) rfl (opnd_op 12 45 (by kernel_rfl) rfl) (Or.inr ⟨rfl, rfl⟩) rfl
    · exact owe_un (x := .tmp 46) rfl (wants_all rfl) rfl (opnd_op 0 46 (by kernel_rfl) rfl) rfl (fun ρ w h1 => run_nilc ρ _ _ w _ h1)
    · exact owe_un (x := .tmp 60) rfl (wants_all rfl) rfl (opnd_op 15 60 (by kernel_rfl) rfl) rfl (fun ρ w h1 => part_row2 ρ _ _ w _ h1)
    · exact owe_sput rfl (wants_all rfl) rfl (opnd_op 16 61 (by kernel_rfl) rfl) (k := 0) rfl (j := 2) rfl (by kernel_rfl) (opnd_op 13 58 (by kernel_rfl) rfl) flat_nn (Nat.le_of_ble_eq_true rfl) store1_sl rfl
    · exact owe_un (x := .tmp 47) rfl (wants_all rfl) rfl (opnd_op 1 47 (by kernel_rfl) rfl) rfl (fun ρ w h1 => run_nilc ρ _ _ w _ h1)
    · exact owe_un (x := .tmp 62) rfl (wants_all rfl) rfl (opnd_op 18 62 (by kernel_rfl) rfl) rfl (fun ρ w h1 => part_row3 ρ _ _ w _ h1)
    · exact owe_sput2 17 rfl (wants_all rfl) rfl (opnd_op 19 63 (by kernel_rfl) rfl) (by kernel_rfl) rfl (j := 2) rfl (opnd_op 14 59 (by kernel_rfl) rfl) flat_nn (Nat.le_of_ble_eq_true rfl) store1_sl rfl
  intro B5 a5 W5 S5
  replace S5 : Sta w0 127 [(0, (.box 68 (SF [((NN (raA A b (lk A b))) w.heap.size), ((NN (raB A b (lk A b))) w.heap.size), ((NN (shX X Y (lk A b))) w.heap.size), ((NN (shY X Y (lk A b))) w.heap.size), (Is (.bool mn))]))), (2, (.box 75 ((SVF A b (lk A b)) w.heap.size)))] [(25, (Is (.bool true))), (12, (Is (.bool true))), (0, (Is (.pointer (some ⟨g, 0, none⟩)))), (0, (Keep (fun k => k = g) w))] B5 a5 W5 := S5
  refine wp_stmt_seq [.val (Is (.pointer (some ⟨g, 0, none⟩))),
      .val (Is (.pointer (some ⟨g, 0, none⟩))),
      .val (Is (.pointer (some ⟨g, 0, none⟩))),
      .val (Is (.pointer (some ⟨g, 4, none⟩))),
      .val (Is (.bool mn)),
      .val (Part a5 2 4),
      .val (Is (.bool (lk A b).2.2.2.2)),
      .val (Is (.bool (mn != (lk A b).2.2.2.2))),
      .val (Is (.pointer (some ⟨g, 0, none⟩))),
      .val (Is (.pointer (some ⟨g, 4, none⟩))),
      .put (.inl 0) (.box 68 (SF [((NN (raA A b (lk A b))) w.heap.size), ((NN (raB A b (lk A b))) w.heap.size), ((NN (shX X Y (lk A b))) w.heap.size), ((NN (shY X Y (lk A b))) w.heap.size), (Is (.bool (mn != (lk A b).2.2.2.2)))]))] [.inr 0, .inr 1] [.inr 0, .inr 1, .inr 2, .inr 3] follows S5 rfl (by kernel_rfl) ?_ ?_
  · refine ⟨⟨⟨⟨⟨⟨⟨⟨⟨⟨⟨trivial, ?_⟩, ?_⟩, ?_⟩, ?_⟩, ?_⟩, ?_⟩, ?_⟩, ?_⟩, ?_⟩, ?_⟩, ?_⟩
    · exact owe_move rfl (wants_all rfl) (Or.inl rfl) (opnd_slot 2 0 rfl (by kernel_rfl)) rfl
    · exact owe_move rfl (wants_all rfl) (Or.inl rfl) (opnd_slot 2 0 rfl (by kernel_rfl)) rfl
    · exact owe_un (x := .tmp 65) rfl (wants_all rfl) rfl (opnd_op 1 65 (by kernel_rfl) rfl) rfl (fun ρ w h1 => run_nilc ρ _ _ w _ h1)
    · exact owe_un (x := .tmp 66) rfl (wants_all rfl) rfl (opnd_op 2 66 (by kernel_rfl) rfl) rfl (fun ρ w h1 => part_row4 ρ _ _ w _ h1)
    · exact owe_sload rfl (wants_all rfl) rfl (opnd_op 3 67 (by kernel_rfl) rfl) (k := 0) rfl (j := 2) rfl (by kernel_rfl) rfl load1_bool rfl
    · exact owe_part rfl (wants_all rfl) rfl (k := 1) rfl (by kernel_rfl) rfl (fun ρ w b h => part_steps4 ρ _ _ w b 0 h)
    · exact owe_pload rfl (wants_all rfl) rfl (opnd_op 5 69 (by kernel_rfl) rfl) (k := 1) rfl (by kernel_rfl) rfl (fun ρ w b u h1 h2 h3 => pload_odd ρ _ _ w b u h1 h2 h3)
    · exact owe_bin rfl (wants_all rfl) rfl (opnd_op 4 68 (by kernel_rfl) rfl) (opnd_op 6 70 (by kernel_rfl) rfl) rfl (fun ρ w h1 h2 => by exact run_neq_bool ρ _ _ _ w _ _ h1 h2)
    · exact owe_un (x := .tmp 64) rfl (wants_all rfl) rfl (opnd_op 0 64 (by kernel_rfl) rfl) rfl (fun ρ w h1 => run_nilc ρ _ _ w _ h1)
    · exact owe_un (x := .tmp 72) rfl (wants_all rfl) rfl (opnd_op 8 72 (by kernel_rfl) rfl) rfl (fun ρ w h1 => part_row4 ρ _ _ w _ h1)
    · exact owe_sput rfl (wants_all rfl) rfl (opnd_op 9 73 (by kernel_rfl) rfl) (k := 0) rfl (j := 2) rfl (by kernel_rfl) (opnd_op 7 71 (by kernel_rfl) rfl) flat_bool (Nat.le_of_ble_eq_true rfl) store1_bool rfl
  intro B6 a6 W6 S6
  replace S6 : Sta w0 127 [(0, (.box 68 (SF [((NN (raA A b (lk A b))) w.heap.size), ((NN (raB A b (lk A b))) w.heap.size), ((NN (shX X Y (lk A b))) w.heap.size), ((NN (shY X Y (lk A b))) w.heap.size), (Is (.bool (mn != (lk A b).2.2.2.2)))]))), (2, (.box 75 ((SVF A b (lk A b)) w.heap.size)))] [(25, (Is (.bool true))), (12, (Is (.bool true))), (0, (Is (.pointer (some ⟨g, 0, none⟩)))), (0, (Keep (fun k => k = g) w))] B6 a6 W6 := S6
  refine wp_ret ?_
  refine thenR ?_
  refine (end_none S6 rfl ?_).2
  obtain ⟨v1, e1, f1⟩ := S6.content_at 0 0 rfl 2 rfl
  obtain ⟨b2, u2, _, _, f2⟩ := S6.content 1 2 rfl
  exact ⟨rfl, S6.slot 3 0 rfl, v1, e1, f1, f2.2⟩

end Go.Proofs.YtblmlhhicpomkaaDoor

/-
  One call of (*row).next, as its caller sees it.
-/
namespace Go.Proofs.YtblmlhhicpomkaaDoor
open Go Go.RowKit Nt
set_option linter.unusedSimpArgs false
set_option linter.unusedVariables false

theorem SF.has {B : Nat → Prop} {w : World} {ps qs : List Pr} {u : Value} (h : SF ps u w) (hl : ps.length = qs.length) (k : ∀ (f : Nat) (p q : Pr), ps[f]? = some p → qs[f]? = some q → ∀ v, p v w → Has B w q v) : Has B w (SF qs) u := fun w' e => by
  obtain ⟨cs, rfl, h1, h2, h3⟩ := h
  refine ⟨cs, rfl, h1.trans hl, h2, fun f q hq => ?_⟩
  have hf : f < ps.length := by
    rw [hl]
    exact (List.getElem?_eq_some_iff.1 hq).1
  obtain ⟨v, hv, hp⟩ := h3 f (ps[f]'hf) (by simp [hf])
  exact ⟨v, hv, k f _ q (by simp [hf]) hq v hp w' e⟩
/-- Two numbers of the row and their shares, in the struct. -/
abbrev RowP (P : Nat → Pr) (A b X Y : Nat) (mn : Bool) : Pr := SF [P A, P b, P X, P Y, Is (.bool mn)]
theorem five_split {ps : List Pr} {p0 p1 p2 p3 p4 : Pr} {P : Nat → Pr → Prop} (e : ps = [p0, p1, p2, p3, p4]) (h0 : P 0 p0) (h1 : P 1 p1) (h2 : P 2 p2) (h3 : P 3 p3) (h4 : P 4 p4) : ∀ f p, ps[f]? = some p → P f p := by
  subst e
  intro f p hp
  match f, hp with
  | 0, hp => cases hp; exact h0
  | 1, hp => cases hp; exact h1
  | 2, hp => cases hp; exact h2
  | 3, hp => cases hp; exact h3
  | 4, hp => cases hp; exact h4
/-- The values themselves. -/
theorem rowp_ne {P : Nat → Pr} {B B' : Nat → Prop} {w : World} {A b X Y : Nat} {mn : Bool} {u : Value} (hP : ∀ m v W, P m v W → NN m 0 v W) (h : Has B w (RowP P A b X Y mn) u) (hB : ∀ k, B' k → B k) : ∃ va vb vx vy, Has B' w (SF [NE va A, NE vb b, NE vx X, NE vy Y, Is (.bool mn)]) u ∧ Has B w (P A) va ∧ Has B w (P b) vb ∧ Has B w (P X) vx ∧ Has B w (P Y) vy := by
  obtain ⟨cs, rfl, h1, h2, h3⟩ := h.now
  obtain ⟨va, ea, _⟩ := h3 0 _ rfl
  obtain ⟨vb, eb, _⟩ := h3 1 _ rfl
  obtain ⟨vx, ex, _⟩ := h3 2 _ rfl
  obtain ⟨vy, ey, _⟩ := h3 3 _ rfl
  have key : ∀ w', Ev B w w' → P A va w' ∧ P b vb w' ∧ P X vx w' ∧ P Y vy w' := fun w' e => by
    obtain ⟨_, _, g3⟩ := (h w' e).get
    obtain ⟨v0, f0, p0⟩ := g3 0 _ rfl
    obtain ⟨v1, f1, p1⟩ := g3 1 _ rfl
    obtain ⟨v2, f2, p2⟩ := g3 2 _ rfl
    obtain ⟨v3, f3, p3⟩ := g3 3 _ rfl
    rw [ea] at f0
    rw [eb] at f1
    rw [ex] at f2
    rw [ey] at f3
    cases f0; cases f1; cases f2; cases f3
    exact ⟨p0, p1, p2, p3⟩
  refine ⟨va, vb, vx, vy, fun w' e => ?_, fun w' e => (key w' e).1, fun w' e => (key w' e).2.1, fun w' e => (key w' e).2.2.1, fun w' e => (key w' e).2.2.2⟩
  have e' : Ev B w w' := e.mono hB
  obtain ⟨_, _, g3⟩ := (h w' e').get
  obtain ⟨k0, k1, k2, k3⟩ := key w' e'
  exact ⟨cs, rfl, h1, h2, five_split (P := fun f p => ∃ u, cs[f]? = some u ∧ p u w') rfl ⟨_, ea, rfl, hP _ _ _ k0⟩ ⟨_, eb, rfl, hP _ _ _ k1⟩ ⟨_, ex, rfl, hP _ _ _ k2⟩ ⟨_, ey, rfl, hP _ _ _ k3⟩ (g3 4 _ rfl)⟩

set_option maxHeartbeats 1000000 in
theorem next_all {M N : Nat} {P : Nat → Pr} (hP : ∀ m v W, P m v W → NN m 0 v W) (w : World) (g A b X Y : Nat) (mn : Bool) (u : Value) (Bc : Nat → Prop) (hBc : ∀ k, Bc k → k < w.heap.size) (hg : Bc g) (hF : ∀ w' m v, Ev (fun k => k = g) w w' → NN m w.heap.size v w' → Has Bc w' (P m) v) (h1 : w.heap[g]? = some (.cells u.cells 68 (0, 0))) (hu : Has Bc w (RowP P A b X Y mn) u) (hz : Bz M N A b X Y mn) (hb : b ≠ 0) (hle : b ≤ A) (sA : (digs A).length ≤ 1099511627776) (sX : (digs X).length ≤ 1099511627776) (sY : (digs Y).length ≤ 1099511627776) :
    Calls Tryd.prog 42 #[.pointer (some ⟨g, 0, none⟩)] w fun e w' => e = .returned (.tuple #[]) ∧ Ev (fun k => k = g) w w' ∧ ∃ (u' : Value) (A' b' X' Y' : Nat) (mn' : Bool), w'.heap[g]? = some (.cells u'.cells 68 (0, 0)) ∧ Has Bc w' (RowP P A' b' X' Y' mn') u' ∧ Bz M N A' b' X' Y' mn' ∧ b' < b ∧ b' < A' ∧ A' ≤ A ∧ X' ≤ 8589934592 * M := by
  have hsz := hBc g hg
  have hyl := hz.y_le
  have hxl := hz.x_le hb
  have mm : ∀ k, k = g → Bc k := fun k e => e ▸ hg
  obtain ⟨va, vb, vx, vy, hE, ha, hb', hx, hy⟩ := rowp_ne hP hu mm
  have hcut : Below (cutW w g).heap.size (cutW w g) w := below_cut (by omega)
  have hB : ∀ k, k = g → (cutW w g).heap.size ≤ k ∧ k < w.heap.size := fun k e => by rw [cutW_size (by omega)]; omega
  have fr : ∀ {w' : World} {m : Nat} {v : Value}, Ev (fun k => k = g) w w' → NN m w.heap.size v w' → Has Bc w' (P m) v := fun e h => hF _ _ _ e h
  have old : ∀ {w' : World} {m : Nat} {v x : Value}, Ev (fun k => k = g) w w' → Has Bc w (P m) x → NE x m v w' → Has Bc w' (P m) v := fun e h hv => by
    rw [hv.1]
    exact h.go (e.mono mm) (fun _ _ h => h)
  have fin : ∀ (w' : World) (u' : Value), Ev (fun k => k = g) w w' → SF [NE vb b, NN (A % b) w.heap.size, NE vy Y, NN (X + ((A / b) * Y)) w.heap.size, Is (.bool (!mn))] u' w' → Has Bc w' (RowP P b (A % b) Y (X + A / b * Y) (!mn)) u' := fun w' u' e h =>
    h.has rfl (fun f p q hp hq v hv => by
      match f, hp, hq with
      | 0, hp, hq => cases hp; cases hq; exact old e hb' hv
      | 1, hp, hq => cases hp; cases hq; exact fr e hv
      | 2, hp, hq => cases hp; cases hq; exact old e hy hv
      | 3, hp, hq => cases hp; cases hq; exact fr e hv
      | 4, hp, hq => cases hp; cases hq; exact fun _ _ => hv)
  have hmod := Nat.mod_lt A (Nat.pos_of_ne_zero hb)
  by_cases h3 : (digs b).length < 3
  · refine (next_s w (cutW w g) g A b X Y mn va vb vx vy u hcut hB h1 hE hb hle sA sX sY h3).mono ?_
    rintro e w' ⟨rfl, ev, u', e1, f1⟩
    exact ⟨rfl, ev, u', _, _, _, _, _, e1, fin w' u' ev f1, hz.one hb, hmod, hmod, hle, by omega⟩
  · by_cases hV : (lk A b).2.1 = 0
    · refine (next_l0 w (cutW w g) g A b X Y mn va vb vx vy u hcut hB h1 hE hb hle sA sX sY (by omega) hV).mono ?_
      rintro e w' ⟨rfl, ev, u', e1, f1, _⟩
      exact ⟨rfl, ev, u', _, _, _, _, _, e1, fin w' u' ev f1, hz.one hb, hmod, hmod, hle, by omega⟩
    · refine (next_l w (cutW w g) g A b X Y mn va vb vx vy u hcut hB h1 hE hb hle sA sX sY (by omega) hV).mono ?_
      rintro e w' ⟨rfl, ev, u', e1, f1, st⟩
      have gd := st.good hV
      revert f1
      generalize lk A b = s at *
      obtain ⟨U0, V0, U1, V1, odd⟩ := s
      intro f1
      obtain ⟨a', b', hc, hlt, hab, hgc, hdt⟩ := gd
      dsimp only at hc hdt
      have ea : raA A b (U0, V0, U1, V1, odd) = a' := by
        unfold raA
        rcases hc with ⟨rfl, e1, e2⟩ | ⟨rfl, e1, e2⟩
        · simp only [if_true]; omega
        · simp only [Bool.false_eq_true, if_false]; omega
      have eb : raB A b (U0, V0, U1, V1, odd) = b' := by
        unfold raB
        rcases hc with ⟨rfl, e1, e2⟩ | ⟨rfl, e1, e2⟩
        · simp only [if_true]; omega
        · simp only [Bool.false_eq_true, if_false]; omega
      rw [ea, eb] at f1
      have hX : shX X Y (U0, V0, U1, V1, odd) ≤ 8589934592 * M := by
        obtain ⟨s1, s2, _, _⟩ := st.small
        dsimp only at s1 s2
        have t1 : U0 * X ≤ 4294967296 * M := Nat.mul_le_mul (by omega) hxl
        have t2 : V0 * Y ≤ 4294967296 * M := Nat.mul_le_mul (by omega) hyl
        show U0 * X + V0 * Y ≤ _
        omega
      refine ⟨rfl, ev, u', a', b', shX X Y (U0, V0, U1, V1, odd), shY X Y (U0, V0, U1, V1, odd), mn != odd, e1, f1.has rfl (fun f p q hp hq v hv => ?_), hz.many hc hlt hgc hdt, by omega, hlt, by omega, hX⟩
      match f, hp, hq with
      | 0, hp, hq => cases hp; cases hq; exact fr ev hv
      | 1, hp, hq => cases hp; cases hq; exact fr ev hv
      | 2, hp, hq => cases hp; cases hq; exact fr ev hv
      | 3, hp, hq => cases hp; cases hq; exact fr ev hv
      | 4, hp, hq => cases hp; cases hq; exact fun _ _ => hv
end Go.Proofs.YtblmlhhicpomkaaDoor
