import Derived.Test.YtaplbadcpbollaaGreatDoorSetQ
import Derived.Test.YtaplbadcpbollaaGreatDoorSetF
import Derived.Test.YtaplbadcpbollaaGreatDoorSetP
import Derived.Test.YtaplbadcpbollaaGreatDoorSetX
import Derived.Test.YtaplbadcpbollaaGreatDoorSetZ
import Derived.Test.YtaplbadcpbollaaGreatDoorPower
import Derived.Test.YtaplbadcpbollaaGreatDoorSetU
/-
  The calls of nat and zint, and of the laws, in the form that the logic of statements takes.
-/
namespace Go.Proofs.YtaplbadcpbollaaGreatDoor
open Go Go.RowKit Nt
set_option linter.unusedSimpArgs false
set_option linter.unusedVariables false
set_option maxRecDepth 20000

theorem dl_small {a : Int} (h : a.natAbs < 4294967296) : (digs a.natAbs).length ≤ 1 := digs_length_le (by omega)
theorem res_nn {w w' : World} {r : Option Addr} {c m : Nat} (h : Res w w' r c m) : NN m w.heap.size (.slice r (digs m).length c) w' := ⟨r, c, rfl, h.sl, fun b o e => (h.own b o e).2.1⟩
theorem ans_nn {w w' : World} {r : Option Addr} {c m : Nat} (h : Ans w w' r c m) : NN m w.heap.size (.slice r (digs m).length c) w' := ⟨r, c, rfl, h.sl, h.fresh⟩
theorem nm_zn {w : World} {b : Bool} {L : Nat} {D : List Nat} {z : Int} {r : Option Addr} {c lo : Nat} (h : Nm b L D z) (hs : Sl w r L c D) (hf : ∀ b o, r = some ⟨b, o, none⟩ → lo ≤ b) : ZN z lo (.agg #[.bool b, .slice r L c]) w := by
  obtain ⟨rfl, rfl, rfl⟩ := h
  exact ⟨r, c, rfl, hs, hf⟩

/-- A row with these limbs, noughts and all, in new memory. -/
def NR (xs : List Nat) : Nat → Pr := fun lo v w => ∃ r c, v = .slice r xs.length c ∧ Sl w r xs.length c xs ∧ ∀ b o, r = some ⟨b, o, none⟩ → lo ≤ b
theorem nr_nv {xs : List Nat} {lo k m : Nat} (hm : val xs = m) (hk : xs.length ≤ k) : ∀ v w, NR xs lo v w → Nv m k v w := fun v w ⟨r, c, e, h, _⟩ => ⟨_, _, _, _, e, h, hm, hk⟩
theorem bs_nr {k lo : Nat} : ∀ v w, BS k lo v w → NR [k] lo v w := fun v w ⟨h0, ⟨g, c, ys, e1, e2, e3, e4, e5⟩, h2⟩ => by
  obtain rfl : ys = U [k] := e5
  refine ⟨some ⟨g, 0, none⟩, c, e1, ?_, fun b o e => ?_⟩
  · exact ⟨rfl, e2.2.1, e2.2.2, (fun e => by cases e), Ok.cons h0 Ok.nil, Blk.limbs e3⟩
  · rw [e1] at h2
    simp only [Option.some.injEq, Addr.mk.injEq] at e
    rw [← e.1]
    exact h2 g rfl

/-! nat. -/
theorem g_trim {p : Option Addr} {n c : Nat} {xs : List Nat} : Makes1 67 (Nx p n c xs) (Nx p (digs (val xs)).length c (digs (val xs))) := by
  rintro w u ⟨rfl, h⟩
  refine (trim_s w p n c _ xs rfl h).mono ?_
  rintro e w' ⟨rfl, rfl⟩
  exact ⟨_, rfl, Below.refl _ _, fun W ⟨_, h2⟩ => ⟨rfl, h2.digs⟩⟩
theorem g_bits {x k : Nat} (hk : k ≤ 288230376151711743) : ∀ w u, Nv x k u w → Calls Tryz.prog 62 #[u] w (Gives (IS (.int .i64 (Go.bitLen x : Nat))) w) := by
  rintro w u ⟨p, n, c, xs, rfl, h, rfl, hn⟩
  refine (bits_c w p n c xs h (by omega)).mono ?_
  rintro e w' ⟨rfl, rfl⟩
  exact ⟨_, rfl, Below.refl _ _, rfl⟩
theorem g_norm {x k : Nat} (hk : k ≤ 70368744177664) : ∀ w u, Nv x k u w → Calls Tryz.prog 70 #[u] w (Gives (NN x) w) := by
  rintro w u ⟨p, n, c, xs, rfl, h, rfl, hn⟩
  refine (norm_n w p n c _ h.num k hn hk).mono ?_
  rintro e w' ⟨r, cr, rfl, R, _⟩
  exact ⟨_, rfl, R.below, res_nn R⟩
theorem g_power {x k z : Nat} (hk : k ≤ 1048576) (hz0 : 0 < z) (hz : z ≤ 1048576) (hb : Go.bitLen x * z ≤ 1048576) : ∀ w u v, Nv x k u w → Is (.int .i64 (z : Nat)) v w → Calls Tryz.prog 85 #[u, v] w (Gives (NN (x ^ z)) w) := by
  rintro w u v ⟨p, n, c, xs, rfl, h, rfl, hn⟩ hv
  obtain rfl : v = _ := hv
  refine (power_c w p n c xs z h (by omega) hz0 hz hb).mono ?_
  rintro e w' ⟨r, cr, rfl, R⟩
  exact ⟨_, rfl, R.below, res_nn R⟩

theorem g_add {x y ka kb : Nat} (hk : ka ≤ 70368744177663) (hk' : kb ≤ 70368744177663) : ∀ w u v, Nv x ka u w → Nv y kb v w → Calls Tryz.prog 54 #[u, v] w (Gives (NN (x + y)) w) := by
  rintro w u v ⟨p, n, c, xs, rfl, h, rfl, hn⟩ ⟨q, m, d, ys, rfl, h', rfl, hm⟩
  refine (add_c w p q n c m d xs ys h h' (by omega) (by omega)).mono ?_
  rintro e w' ⟨r, cr, rfl, R⟩
  exact ⟨_, rfl, R.below, res_nn R⟩
theorem g_mul {x y ka kb : Nat} (hk : ka + kb ≤ 70368744177664) : ∀ w u v, Nv x ka u w → Nv y kb v w → Calls Tryz.prog 55 #[u, v] w (Gives (NN (x * y)) w) := by
  rintro w u v ⟨p, n, c, xs, rfl, h, rfl, hn⟩ ⟨q, m, d, ys, rfl, h', rfl, hm⟩
  refine (mul_c w p q n c m d xs ys h h' (by omega)).mono ?_
  rintro e w' ⟨r, cr, rfl, R⟩
  exact ⟨_, rfl, R.below, res_nn R⟩
theorem g_zof (n : Int) (h1 : -9223372036854775808 ≤ n) (h2 : n < 9223372036854775808) : ∀ w u, Is (.int .i64 n) u w → Calls Tryz.prog 16 #[u] w (Gives (ZN n) w) := fun w u e => by
  obtain rfl : u = _ := e
  refine (zof_c w n h1 h2).mono ?_
  rintro e w' ⟨r, cr, rfl, Z⟩
  exact za_gives Z
end Go.Proofs.YtaplbadcpbollaaGreatDoor

/-
  The document's power of two, in new memory.
-/
namespace Go.Proofs.YtaplbadcpbollaaGreatDoor
open Go Go.RowKit Nt
set_option linter.unusedSimpArgs false
set_option linter.unusedVariables false
set_option maxRecDepth 20000

theorem Sta.change {w0 W : World} {n : Nat} {bx : Bxs} {sl : List (Tmp × Pr)} {B : Nat → Prop} {a : Act} (S : Sta w0 n bx sl B a W) (k : Nat) {t : Nat} {φ ψ : Pr} (h : sl[k]? = some (t, φ)) (hi : ∀ v w, φ v w → ψ v w) : Sta w0 n bx (sl.set k (t, ψ)) B a W :=
  ⟨S.ent, S.bnd, S.siz, S.dfr, S.box, S.sep, fun x hx => by
    rcases List.mem_or_eq_of_mem_set hx with h1 | h1
    · exact S.slt x h1
    · subst h1
      exact fun w' e => hi _ _ (S.slt _ (List.mem_of_getElem? h) w' e)⟩
theorem bs_nv {k lo : Nat} : ∀ v w, BS k lo v w → Nv k 1 v w := fun v w h => nr_nv (val_one k) (Nat.le_refl _) v w (bs_nr v w h)
theorem digs_nx {p : Option Addr} {k c : Nat} {m j : Nat} (hj : k ≤ j) : ∀ v w, Nx p k c (digs m) v w → Nv m j v w := fun v w ⟨e, h⟩ => ⟨p, k, c, _, e, h, val_digs m, hj⟩
theorem nn_one {lo : Nat} : ∀ v w, BS 1 lo v w → NN 1 lo v w := fun v w h => by
  obtain ⟨r, c, e, h1, h2⟩ := bs_nr v w h
  have e1 : digs 1 = [1] := rfl
  exact ⟨r, c, by rw [e1]; exact e, by rw [e1]; exact h1, h2⟩
theorem Gives.two {φ φ' ψ : Nat → Pr} {w : World} {f : FuncId} {args : Array Value} (h : Calls Tryz.prog f args w (Gives (TWO φ ψ) w)) (k : ∀ v w', φ w.heap.size v w' → φ' w.heap.size v w') : Calls Tryz.prog f args w (Gives (TWO φ' ψ) w) := by
  refine h.mono ?_
  rintro e w' ⟨v, rfl, hb, x, y, rfl, h1, h2⟩
  exact ⟨_, rfl, hb, x, y, rfl, k _ _ h1, h2⟩
theorem zero_nn {lo : Nat} : ∀ v w, IS (.slice none 0 0) lo v w → NN 0 lo v w := fun v w e => ⟨none, 0, e, Sl.none w, fun b o h => nomatch h⟩
end Go.Proofs.YtaplbadcpbollaaGreatDoor

/-
  Rationals in the logic of statements: what is said of them, the machine's way with their boxes, lists of one and two.
-/
namespace Go.Proofs.YtaplbadcpbollaaGreatDoor
open Go Go.RowKit Nt
set_option linter.unusedSimpArgs false
set_option linter.unusedVariables false
set_option maxRecDepth 20000

/-- A struct of two numbers. -/
def PR (φ ψ : Pr) : Pr := fun v w => ∃ x0 x1 y0 y1, v = .agg #[x0, x1, y0, y1] ∧ φ (.agg #[x0, x1]) w ∧ ψ (.agg #[y0, y1]) w
def PRF (φ ψ : Nat → Pr) : Nat → Pr := fun lo => PR (φ lo) (ψ lo)
/-- A rational in one form, in new memory. -/
def RN (N : Int) (D : Nat) : Nat → Pr := PRF (ZN N) (ZN (D : Int))
theorem fresh_prf {φ ψ : Nat → Pr} (h : Fresh φ) (h' : Fresh ψ) : Fresh (PRF φ ψ) :=
  ⟨fun lo lo' v w hl ⟨x0, x1, y0, y1, e, a, b⟩ => ⟨x0, x1, y0, y1, e, h.mono _ _ _ _ hl a, h'.mono _ _ _ _ hl b⟩, fun lo v w w' B hB ⟨x0, x1, y0, y1, e, a, b⟩ ev => ⟨x0, x1, y0, y1, e, h.ev _ _ _ _ B hB a ev, h'.ev _ _ _ _ B hB b ev⟩⟩
theorem fresh_rn (N : Int) (D : Nat) : Fresh (RN N D) := fresh_prf (fresh_zn _) (fresh_zn _)
theorem pr_imp {φ ψ φ' ψ' : Pr} (h : ∀ v w, φ v w → φ' v w) (h' : ∀ v w, ψ v w → ψ' v w) : ∀ v w, PR φ ψ v w → PR φ' ψ' v w :=
  fun v w ⟨x0, x1, y0, y1, e, a, b⟩ => ⟨x0, x1, y0, y1, e, h _ _ a, h' _ _ b⟩
theorem zv_has {A : Int} {k : Nat} {u : Value} {w : World} (h : Zv A k u w) : Has (fun _ => False) w (Zv A k) u := fun w' e => by
  obtain ⟨s, p, n, c, xs, rfl, hs, hA, hn⟩ := h
  exact ⟨s, p, n, c, xs, rfl, sl_ev hs (fun _ _ _ _ h => h) e, hA, hn⟩
theorem pr_has {φ ψ : Pr} {u : Value} {w : World} (h : PR φ ψ u w) (h1 : ∀ v, φ v w → Has (fun _ => False) w φ v) (h2 : ∀ v, ψ v w → Has (fun _ => False) w ψ v) : Has (fun _ => False) w (PR φ ψ) u := fun w' e => by
  obtain ⟨x0, x1, y0, y1, rfl, a, b⟩ := h
  exact ⟨x0, x1, y0, y1, rfl, h1 _ a w' e, h2 _ b w' e⟩
/-- A rational by its worth: numerator, denominator, each of at most so many limbs. -/
abbrev Rv (A : Int) (D : Int) (k k' : Nat) : Pr := PR (Zv A k) (Zv D k')
theorem rv_has {A D : Int} {k k' : Nat} {u : Value} {w : World} (h : Rv A D k k' u w) : Has (fun _ => False) w (Rv A D k k') u := pr_has h (fun _ => zv_has) (fun _ => zv_has)
/-! Boxes. -/
theorem pair_cells {x0 x1 : Value} {φ : Pr} {w : World} (h : Shp 2 φ) (hφ : φ (.agg #[x0, x1]) w) : x0.oneCell' = true ∧ x1.oneCell' = true := by
  obtain ⟨cs, e, _, h1⟩ := h _ w hφ
  simp only [Value.agg.injEq] at e
  subst e
  simpa using h1
theorem shp_pr {φ ψ : Pr} (h : Shp 2 φ) (h' : Shp 2 ψ) : Shp 4 (PR φ ψ) := fun u w ⟨x0, x1, y0, y1, e, a, b⟩ => by
  have h1 := pair_cells h a
  have h2 := pair_cells h' b
  exact ⟨_, e, rfl, by simp [h1, h2]⟩
theorem shp_r0 : Shp 4 zR := fun u w e => ⟨_, e, rfl, by simp [Value.oneCell']⟩
theorem strct_rat : Strct 26 4 := ⟨⟨_, Tryz.underlying26, rfl⟩, by kernel_rfl⟩
theorem quad_cases {φ : Pr} (h : Shp 4 φ) {u : Value} {w : World} (hφ : φ u w) : ∃ x y z v, u = .agg #[x, y, z, v] := by
  obtain ⟨cs, rfl, hn, _⟩ := h u w hφ
  obtain ⟨l⟩ := cs
  match l, hn with
  | [x, y, z, v], _ => exact ⟨x, y, z, v, rfl⟩
theorem alloc_rat (ρ : Operand → Value) (o : Oper) (w : World) : (execOp ρ { o with op := .alloc 26 }).run Tryz.prog w = .ok (.value (.pointer (some ⟨w.heap.size, 0, none⟩))) (w.alloc (.cells (Value.agg #[.bool false, .slice none 0 0, .bool false, .slice none 0 0]).cells 26 (0, 0))) := by
  unfold execOp
  go_simp
theorem box_rat {φ : Pr} (h : Shp 4 φ) (ρ : Operand → Value) (o : Oper) (x : Operand) (w : World) (hφ : φ (ρ x) w) : (execOp ρ { o with op := .box 26 x }).run Tryz.prog w = .ok (.value (.pointer (some ⟨w.heap.size, 0, none⟩))) (w.alloc (.cells (ρ x).cells 26 (0, 0))) := by
  obtain ⟨y, z, u, v, e⟩ := quad_cases h hφ
  clear hφ h
  rw [e]
  unfold execOp
  go_simp
theorem part_rat0 (ρ : Operand → Value) (o : Oper) (x : Operand) (w : World) (b f : Nat) (h : ρ x = .pointer (some ⟨b, f, none⟩)) : (execOp ρ { o with op := .fieldAddr 26 x 0 }).run Tryz.prog w = .ok (.value (.pointer (some ⟨b, f, none⟩))) w := by
  unfold execOp
  go_simp
theorem part_rat1 (ρ : Operand → Value) (o : Oper) (x : Operand) (w : World) (b f : Nat) (h : ρ x = .pointer (some ⟨b, f, none⟩)) : (execOp ρ { o with op := .fieldAddr 26 x 1 }).run Tryz.prog w = .ok (.value (.pointer (some ⟨b, f + 2, none⟩))) w := by
  unfold execOp
  go_simp
/-- A number that lies in the midst of a block. -/
theorem load_mid {ρ : Operand → Value} {o : Oper} {x : Operand} {w : World} {b off : Nat} {x0 x1 : Value} (hx : ρ x = .pointer (some ⟨b, off, none⟩)) (h0 : w.cell? ⟨b, off, none⟩ = some x0) (h1 : w.cell? ⟨b, off + 1, none⟩ = some x1) :
    (execOp ρ { o with op := .load 24 x }).run Tryz.prog w = .ok (.value (.agg #[x0, x1])) w := by
  obtain ⟨⟨d, hu, hd⟩, hi⟩ := strct_int
  unfold execOp
  simp only [hx, Sem.run_bind, run_loadAt_mid (P := Tryz.prog) w b off 24 [x0, x1] d (fun j v hv => by
    match j, hv with
    | 0, hv => simp only [List.getElem?_cons_zero, Option.some.injEq] at hv; subst hv; exact h0
    | 1, hv => simp only [List.getElem?_cons_succ, List.getElem?_cons_zero, Option.some.injEq] at hv; subst hv; exact h1
    | j + 2, hv => simp at hv) hu hd (by rw [hi]; rfl), Result.andThen_ok, Sem.run_pure]
theorem cell_of {w : World} {b i : Nat} {cs : Array Value} {T : TypeId} (h : w.heap[b]? = some (.cells cs T (0, 0))) : w.cell? ⟨b, i, none⟩ = cs[i]? := by simp [World.cell?, h]
theorem pload_num {φ ψ : Pr} (ρ : Operand → Value) (o : Oper) (x : Operand) (w : World) (b : Nat) (u : Value) (hφ : PR φ ψ u w) (hx : ρ x = .pointer (some ⟨b, 0, none⟩)) (hb : w.heap[b]? = some (.cells u.cells 26 (0, 0))) :
    ∃ v, (execOp ρ { o with op := .load 24 x }).run Tryz.prog w = .ok (.value v) w ∧ ∀ w', PR φ ψ u w' → φ v w' := by
  obtain ⟨x0, x1, y0, y1, rfl, a, b'⟩ := hφ
  refine ⟨.agg #[x0, x1], load_mid hx ((cell_of hb).trans rfl) ((cell_of hb).trans rfl), fun w' h' => ?_⟩
  obtain ⟨a0, a1, b0, b1, e, ha, _⟩ := h'
  simp at e
  rw [e.1, e.2.1]
  exact ha
theorem pload_den {φ ψ : Pr} (ρ : Operand → Value) (o : Oper) (x : Operand) (w : World) (b : Nat) (u : Value) (hφ : PR φ ψ u w) (hx : ρ x = .pointer (some ⟨b, 2, none⟩)) (hb : w.heap[b]? = some (.cells u.cells 26 (0, 0))) :
    ∃ v, (execOp ρ { o with op := .load 24 x }).run Tryz.prog w = .ok (.value v) w ∧ ∀ w', PR φ ψ u w' → ψ v w' := by
  obtain ⟨x0, x1, y0, y1, rfl, a, b'⟩ := hφ
  refine ⟨.agg #[y0, y1], load_mid hx ((cell_of hb).trans rfl) ((cell_of hb).trans rfl), fun w' h' => ?_⟩
  obtain ⟨a0, a1, b0, b1, e, _, ha⟩ := h'
  simp at e
  rw [e.2.2.1, e.2.2.2]
  exact ha

section
variable {ops : Array Oper} {l : List Kd} {bx : Bxs} {sl : List (Tmp × Pr)} {i : Nat} {o : Oper} {Q : Exit → Act → World → Prop} {a0 : Act} {n : Nat} {w0 : World}
theorem owe_build_rat (ho : ops[i]? = some o) (hw : Wants ops l bx sl i o) (hop : o.op = .build 26 #[]) (hk : kdAt l i = .val zR) : Owed Tryz.prog ops Q l bx sl a0 n w0 i :=
  owe_is ho hw hk fun vs B a w c => by
    unfold execOp
    rw [hop]
    generalize a.eval = ρ
    go_simp
/-- One rational, two rationals in a block of their own. -/
def RL1 (φ : Pr) (lo : Nat) : Pr := fun v w => ∃ g x0 x1 y0 y1, v = .slice (some ⟨g, 0, none⟩) 1 1 ∧ lo ≤ g ∧ w.heap[g]? = some (.cells #[x0, x1, y0, y1] 26 (0, 0)) ∧ φ (.agg #[x0, x1, y0, y1]) w
theorem owe_rl1 {x : Operand} {φ : Pr} (ho : ops[i]? = some o) (hw : Wants ops l bx sl i o) (hop : o.op = .buildSlice 61 1 #[(0, x)]) (hx : Opnd ops l bx sl i x φ) (hφ : Shp 4 φ) (hk : kdAt l i = .val (RL1 φ w0.heap.size)) : Owed Tryz.prog ops Q l bx sl a0 n w0 i :=
  owe_grow ho hw hk fun vs B a w c => by
    have h1 := hx a0 n w0 vs B a w c
    obtain ⟨x0, x1, y0, y1, e1⟩ := quad_cases hφ h1.now
    have hb : Below w.heap.size w (w.alloc (.cells #[x0, x1, y0, y1] 26)) := (Below.refl _ _).alloc (Nat.le_refl _) _
    refine ⟨.slice (some ⟨w.heap.size, 0, none⟩) 1 1, w.alloc (.cells #[x0, x1, y0, y1] 26), ?_, hb, fun w' e' => ⟨w.heap.size, x0, x1, y0, y1, rfl, c.lo, ?_, ?_⟩⟩
    · unfold execOp
      rw [hop]
      clear h1 hx
      generalize a.eval = ρ at e1
      go_simp
    · exact (e'.block w.heap.size (by simp) (fun hB => by have := (c.bnd _ hB).2; omega)).trans (heap_alloc_last _ _)
    · rw [← e1]
      exact h1 w' ((Ev.of_below hb).back (fun _ _ h => h) e')
end
end Go.Proofs.YtaplbadcpbollaaGreatDoor

/-
  Calls that turn what their caller owns: the way in, the way out, and how the caller goes on.
-/
namespace Go.Proofs.YtaplbadcpbollaaGreatDoor
open Go Go.RowKit Nt
set_option linter.unusedSimpArgs false
set_option linter.unusedVariables false
set_option maxRecDepth 20000

section
variable {ops : Array Oper} {l : List Kd} {bx : Bxs} {sl : List (Tmp × Pr)} {i : Nat} {o : Oper} {Q : Exit → Act → World → Prop} {a0 : Act} {n : Nat} {w0 : World}
end

/-! A statement whose order is fixed, operation by operation. -/
section
variable {P : Program} {ops : Array Oper} {Q : Exit → Act → World → Prop} {a : Act} {W W' : World} {rest : List Oper} {o : Oper}
end
section
variable {w0 W W' : World} {n : Nat} {bx : Bxs} {sl : List (Tmp × Pr)} {B : Nat → Prop} {a : Act}
theorem Sta.put (S : Sta w0 n bx sl B a W) {d : Tmp} {v : Value} {φ : Pr} (hd : d < n) (hφ : Has B W φ v) (bx' : Bxs) (sl' : List (Tmp × Pr)) (hb : ∀ x ∈ bx', x ∈ bx ∧ x.1 ≠ d) (hs : ∀ x ∈ sl', x ∈ sl ∧ x.1 ≠ d) : Sta w0 n bx' ((d, φ) :: sl') B (a.put (some d) v) W := by
  have ev : ∀ t, t ≠ d → (a.put (some d) v).eval (.tmp t) = a.eval (.tmp t) := fun t ht => Act.eval_put (fun d' hd' e => by
    cases hd'
    simp at e
    first | exact ht e | exact ht e.symm)
  have self : (a.put (some d) v).eval (.tmp d) = v := by
    have : d < a.tmps.size := by rw [S.siz]; exact hd
    simp [Act.eval, Act.put, this]
  refine ⟨S.ent, S.bnd, by rw [put_size]; exact S.siz, by rw [put_defers']; exact S.dfr, fun x hx => ?_, fun x hx y hy b h1 h2 => ?_, fun x hx => ?_⟩
  · rw [ev _ (hb x hx).2]
    exact S.box x (hb x hx).1
  · rw [ev _ (hb x hx).2] at h1
    rw [ev _ (hb y hy).2] at h2
    exact S.sep x (hb x hx).1 y (hb y hy).1 b h1 h2
  · rcases List.mem_cons.1 hx with rfl | hx
    · rw [self]; exact hφ
    · rw [ev _ (hs x hx).2]
      exact S.slt x (hs x hx).1
theorem Ev.mono {B B' : Nat → Prop} {w w' : World} (e : Ev B w w') (h : ∀ k, B k → B' k) : Ev B' w w' := ⟨e.os, e.tape, e.output, e.size, fun k hk hn => e.block k hk (fun hb => hn (h k hb))⟩
/-- Behind a call that turned things of the caller's own. -/
theorem Sta.turn (S : Sta w0 n bx sl B a W) {Sx : Nat → Prop} (e : Ev Sx W W') (hS : ∀ k, Sx k → B k) (bx' : Bxs) (h : ∀ x ∈ bx', (∃ r, (x.1, r) ∈ bx) ∧ x.2.at w0.heap.size B W' (a.eval (.tmp x.1))) (hpl : bx.all (fun x => x.2.plain) = true := by rfl) (hpl' : bx'.all (fun x => x.2.plain) = true := by rfl) : Sta w0 n bx' sl B a W' := by
  have eB : Ev B W W' := e.mono hS
  refine ⟨?_, fun k hk => ⟨(S.bnd k hk).1, Nat.lt_of_lt_of_le (S.bnd k hk).2 e.size⟩, S.siz, S.dfr, fun x hx => (h x hx).2, fun x hx y hy b h1 h2 => ?_, fun x hx => (S.slt x hx).go eB (fun _ _ h => h)⟩
  · refine ⟨e.os.trans S.ent.os, e.tape.trans S.ent.tape, e.output.trans S.ent.output, Nat.le_trans S.ent.size e.size, fun k hk => ?_⟩
    have hk' : k < W.heap.size := Nat.lt_of_lt_of_le hk S.ent.size
    exact (eB.block k hk' (fun hb => by have := (S.bnd k hb).1; omega)).trans (S.ent.block k hk)
  · obtain ⟨r, hr⟩ := (h x hx).1
    obtain ⟨r', hr'⟩ := (h y hy).1
    have p1 := List.all_eq_true.1 hpl _ hr
    have p2 := List.all_eq_true.1 hpl _ hr'
    have q1 := List.all_eq_true.1 hpl' x hx
    have q2 := List.all_eq_true.1 hpl' y hy
    exact S.sep (x.1, r) hr (y.1, r') hr' b ((Rk.set_plain p1 _ _).2 ((Rk.set_plain q1 _ _).1 h1)) ((Rk.set_plain p2 _ _).2 ((Rk.set_plain q2 _ _).1 h2))
end
end Go.Proofs.YtaplbadcpbollaaGreatDoor
