import Derived.Test.YtbgelajoomneiaaGreatSetQ
import Derived.Test.YtbgelajoomneiaaGreatSetP
import Derived.Test.YtbgelajoomneiaaGreatSetR
import Derived.Test.YtbgelajoomneiaaGreatRsG
import Derived.Test.YtbgelajoomneiaaGreatRsD
import Derived.Test.YtbgelajoomneiaaGreatRsJ
import Derived.Test.YtbgelajoomneiaaGreatRsE
import Derived.Test.YtbgelajoomneiaaGreatSetX
import Derived.Test.YtbgelajoomneiaaGreatSetE
import Derived.Test.YtbgelajoomneiaaGreatSetG
/-
 The document's power of two, in new memory.
-/
namespace Go.Proofs.YtbgelajoomneiaaGreat
open Go Go.RowKit Nt
set_option linter.unusedSimpArgs false
set_option linter.unusedVariables false
set_option maxRecDepth 20000

theorem Sta.change {w0 W : World} {n : Nat} {bx : Bxs} {sl : List (Tmp × Pr)} {B : Nat → Prop} {a : Act} (S : Sta w0 n bx sl B a W) (k : Nat) {t : Nat} {φ ψ : Pr} (h : sl[k]? = some (t, φ)) (hi : ∀ v w, φ v w → ψ v w) : Sta w0 n bx (sl.set k (t, ψ)) B a W :=
 ⟨S.ent, S.bnd, S.siz, S.dfr, S.box, S.sep, fun x hx => by
  rcases List.mem_or_eq_of_mem_set hx with h1 | h1
  ·exact S.slt x h1
  ·subst h1
   exact fun w' e => hi _ _ (S.slt _ (List.mem_of_getElem? h) w' e)⟩
theorem Gives.two {φ φ' ψ : Nat → Pr} {w : World} {f : FuncId} {args : Array Value} (h : Calls Tryz.prog f args w (Gives (TWO φ ψ) w)) (k : ∀ v w', φ w.heap.size v w' → φ' w.heap.size v w') : Calls Tryz.prog f args w (Gives (TWO φ' ψ) w) := by
 refine h.mono ?_
 rintro e w' ⟨v, rfl, hb, x, y, rfl, h1, h2⟩
 exact ⟨_, rfl, hb, x, y, rfl, k _ _ h1, h2⟩
theorem zero_zn {lo : Nat} : ∀ v w, IS (.agg #[.bool false, .slice none 0 0]) lo v w → ZN 0 lo v w := fun v w e => ⟨none, 0, e, Sl.none w, fun b o h => nomatch h⟩
end Go.Proofs.YtbgelajoomneiaaGreat

/-
 Rationals in the logic of statements: what is said of them, the machine's way with their boxes, lists of one and two.
-/
namespace Go.Proofs.YtbgelajoomneiaaGreat
open Go Go.RowKit Nt
set_option linter.unusedSimpArgs false
set_option linter.unusedVariables false
set_option maxRecDepth 20000

/-- A struct of two numbers. -/
def PR (φ ψ : Pr) : Pr := fun v w => ∃ x0 x1 y0 y1, v = .agg #[x0, x1, y0, y1] ∧ φ (.agg #[x0, x1]) w ∧ ψ (.agg #[y0, y1]) w
def PRF (φ ψ : Nat → Pr) : Nat → Pr := fun lo => PR (φ lo) (ψ lo)
/-- A rational in one form, in new memory. -/
def RN (N : Int) (D : Nat) : Nat → Pr := PRF (ZN N) (ZN (D : Int))
theorem fresh_prf {φ ψ : Nat → Pr} (h : Fresh φ) (h' : Fresh ψ) : Fresh (PRF φ ψ) :=
 ⟨fun lo lo' v w hl ⟨x0, x1, y0, y1, e, a, b⟩ => ⟨x0, x1, y0, y1, e, h.mono _ _ _ _ hl a, h'.mono _ _ _ _ hl b⟩, fun lo v w w' B hB ⟨x0, x1, y0, y1, e, a, b⟩ ev => ⟨x0, x1, y0, y1, e, h.ev _ _ _ _ B hB a ev, h'.ev _ _ _ _ B hB b ev⟩⟩
theorem fresh_rn (N : Int) (D : Nat) : Fresh (RN N D) := fresh_prf (fresh_zn _) (fresh_zn _)
theorem pr_imp {φ ψ φ' ψ' : Pr} (h : ∀ v w, φ v w → φ' v w) (h' : ∀ v w, ψ v w → ψ' v w) : ∀ v w, PR φ ψ v w → PR φ' ψ' v w :=
 fun v w ⟨x0, x1, y0, y1, e, a, b⟩ => ⟨x0, x1, y0, y1, e, h _ _ a, h' _ _ b⟩
theorem zv_has {A : Int} {k : Nat} {u : Value} {w : World} (h : Zv A k u w) : Has (fun _ => False) w (Zv A k) u := fun w' e => by
 obtain ⟨s, p, n, c, xs, rfl, hs, hA, hn⟩ := h
 exact ⟨s, p, n, c, xs, rfl, sl_ev hs (fun _ _ _ _ h => h) e, hA, hn⟩
theorem pr_has {φ ψ : Pr} {u : Value} {w : World} (h : PR φ ψ u w) (h1 : ∀ v, φ v w → Has (fun _ => False) w φ v) (h2 : ∀ v, ψ v w → Has (fun _ => False) w ψ v) : Has (fun _ => False) w (PR φ ψ) u := fun w' e => by
 obtain ⟨x0, x1, y0, y1, rfl, a, b⟩ := h
 exact ⟨x0, x1, y0, y1, rfl, h1 _ a w' e, h2 _ b w' e⟩
/-- A rational by its worth: numerator, denominator, each of at most so many limbs. -/
abbrev Rv (A : Int) (D : Int) (k k' : Nat) : Pr := PR (Zv A k) (Zv D k')
theorem rv_has {A D : Int} {k k' : Nat} {u : Value} {w : World} (h : Rv A D k k' u w) : Has (fun _ => False) w (Rv A D k k') u := pr_has h (fun _ => zv_has) (fun _ => zv_has)
theorem rn_rv {N : Int} {D lo k k' : Nat} (h : (digs N.natAbs).length ≤ k) (h' : (digs D).length ≤ k') : ∀ v w, RN N D lo v w → Rv N (D : Int) k k' v w :=
 pr_imp (zn_zv h) (zn_zv (by rw [Int.natAbs_natCast]; exact h'))
theorem zv_mono {A : Int} {k k' : Nat} (hk : k ≤ k') : ∀ v w, Zv A k v w → Zv A k' v w := fun v w ⟨s, p, n, c, xs, e, h, hA, hn⟩ => ⟨s, p, n, c, xs, e, h, hA, Nat.le_trans hn hk⟩
theorem zero_zv : ∀ v w, Is (.agg #[.bool false, .slice none 0 0]) v w → Zv 0 0 v w := fun v w e => ⟨false, none, 0, 0, [], e, Sl.none w, rfl, Nat.le_refl _⟩

/-! Boxes. -/
theorem pair_cells {x0 x1 : Value} {φ : Pr} {w : World} (h : Shp 2 φ) (hφ : φ (.agg #[x0, x1]) w) : x0.oneCell' = true ∧ x1.oneCell' = true := by
 obtain ⟨cs, e, _, h1⟩ := h _ w hφ
 simp only [Value.agg.injEq] at e
 subst e
 simpa using h1
theorem shp_pr {φ ψ : Pr} (h : Shp 2 φ) (h' : Shp 2 ψ) : Shp 4 (PR φ ψ) := fun u w ⟨x0, x1, y0, y1, e, a, b⟩ => by
 have h1 := pair_cells h a
 have h2 := pair_cells h' b
 exact ⟨_, e, rfl, by simp [h1, h2]⟩
theorem shp_r0 : Shp 4 zR := fun u w e => ⟨_, e, rfl, by simp [Value.oneCell']⟩
theorem strct_rat : Strct 34 4 := ⟨⟨_, Tryz.underlying34, rfl⟩, by kernel_rfl⟩
theorem quad_cases {φ : Pr} (h : Shp 4 φ) {u : Value} {w : World} (hφ : φ u w) : ∃ x y z v, u = .agg #[x, y, z, v] := by
 obtain ⟨cs, rfl, hn, _⟩ := h u w hφ
 obtain ⟨l⟩ := cs
 match l, hn with
 | [x, y, z, v], _ => exact ⟨x, y, z, v, rfl⟩
theorem alloc_rat (ρ : Operand → Value) (o : Oper) (w : World) : (execOp ρ { o with op := .alloc 34 }).run Tryz.prog w = .ok (.value (.pointer (some ⟨w.heap.size, 0, none⟩))) (w.alloc (.cells (Value.agg #[.bool false, .slice none 0 0, .bool false, .slice none 0 0]).cells 34 (0, 0))) := by
  unfold execOp
  go_simp
theorem box_rat {φ : Pr} (h : Shp 4 φ) (ρ : Operand → Value) (o : Oper) (x : Operand) (w : World) (hφ : φ (ρ x) w) : (execOp ρ { o with op := .box 34 x }).run Tryz.prog w = .ok (.value (.pointer (some ⟨w.heap.size, 0, none⟩))) (w.alloc (.cells (ρ x).cells 34 (0, 0))) := by
  obtain ⟨y, z, u, v, e⟩ := quad_cases h hφ
  clear hφ h
  rw [e]
  unfold execOp
  go_simp
theorem part_rat0 (ρ : Operand → Value) (o : Oper) (x : Operand) (w : World) (b f : Nat) (h : ρ x = .pointer (some ⟨b, f, none⟩)) : (execOp ρ { o with op := .fieldAddr 34 x 0 }).run Tryz.prog w = .ok (.value (.pointer (some ⟨b, f, none⟩))) w := by
  unfold execOp
  go_simp
theorem part_rat1 (ρ : Operand → Value) (o : Oper) (x : Operand) (w : World) (b f : Nat) (h : ρ x = .pointer (some ⟨b, f, none⟩)) : (execOp ρ { o with op := .fieldAddr 34 x 1 }).run Tryz.prog w = .ok (.value (.pointer (some ⟨b, f + 2, none⟩))) w := by
  unfold execOp
  go_simp
/-- A number that lies in the midst of a block. -/
theorem load_mid {ρ : Operand → Value} {o : Oper} {x : Operand} {w : World} {b off : Nat} {x0 x1 : Value} (hx : ρ x = .pointer (some ⟨b, off, none⟩)) (h0 : w.cell? ⟨b, off, none⟩ = some x0) (h1 : w.cell? ⟨b, off + 1, none⟩ = some x1) :
  (execOp ρ { o with op := .load 32 x }).run Tryz.prog w = .ok (.value (.agg #[x0, x1])) w := by
 obtain ⟨⟨d, hu, hd⟩, hi⟩ := strct_int
 unfold execOp
 simp only [hx, Sem.run_bind, run_loadAt_mid (P := Tryz.prog) w b off 32 [x0, x1] d (fun j v hv => by
  match j, hv with
  | 0, hv => simp only [List.getElem?_cons_zero, Option.some.injEq] at hv; subst hv; exact h0
  | 1, hv => simp only [List.getElem?_cons_succ, List.getElem?_cons_zero, Option.some.injEq] at hv; subst hv; exact h1
  | j + 2, hv => simp at hv) hu hd (by rw [hi]; rfl), Result.andThen_ok, Sem.run_pure]
theorem cell_of {w : World} {b i : Nat} {cs : Array Value} {T : TypeId} (h : w.heap[b]? = some (.cells cs T (0, 0))) : w.cell? ⟨b, i, none⟩ = cs[i]? := by simp [World.cell?, h]
theorem pload_num {φ ψ : Pr} (ρ : Operand → Value) (o : Oper) (x : Operand) (w : World) (b : Nat) (u : Value) (hφ : PR φ ψ u w) (hx : ρ x = .pointer (some ⟨b, 0, none⟩)) (hb : w.heap[b]? = some (.cells u.cells 34 (0, 0))) :
  ∃ v, (execOp ρ { o with op := .load 32 x }).run Tryz.prog w = .ok (.value v) w ∧ ∀ w', PR φ ψ u w' → φ v w' := by
 obtain ⟨x0, x1, y0, y1, rfl, a, b'⟩ := hφ
 refine ⟨.agg #[x0, x1], load_mid hx ((cell_of hb).trans rfl) ((cell_of hb).trans rfl), fun w' h' => ?_⟩
 obtain ⟨a0, a1, b0, b1, e, ha, _⟩ := h'
 simp at e
 rw [e.1, e.2.1]
 exact ha
theorem pload_den {φ ψ : Pr} (ρ : Operand → Value) (o : Oper) (x : Operand) (w : World) (b : Nat) (u : Value) (hφ : PR φ ψ u w) (hx : ρ x = .pointer (some ⟨b, 2, none⟩)) (hb : w.heap[b]? = some (.cells u.cells 34 (0, 0))) :
  ∃ v, (execOp ρ { o with op := .load 32 x }).run Tryz.prog w = .ok (.value v) w ∧ ∀ w', PR φ ψ u w' → ψ v w' := by
 obtain ⟨x0, x1, y0, y1, rfl, a, b'⟩ := hφ
 refine ⟨.agg #[y0, y1], load_mid hx ((cell_of hb).trans rfl) ((cell_of hb).trans rfl), fun w' h' => ?_⟩
 obtain ⟨a0, a1, b0, b1, e, _, ha⟩ := h'
 simp at e
 rw [e.2.2.1, e.2.2.2]
 exact ha

section
variable {ops : Array Oper} {l : List Kd} {bx : Bxs} {sl : List (Tmp × Pr)} {i : Nat} {o : Oper} {Q : Exit → Act → World → Prop} {a0 : Act} {n : Nat} {w0 : World}
/-- A rational made of two numbers. -/
theorem owe_build2 {x y : Operand} {φ ψ : Pr} (ho : ops[i]? = some o) (hw : Wants ops l bx sl i o) (hop : o.op = .build 34 #[(0, x), (1, y)]) (hx : Opnd ops l bx sl i x φ) (hy : Opnd ops l bx sl i y ψ) (hφ : Shp 2 φ) (hψ : Shp 2 ψ) (hk : kdAt l i = .val (PR φ ψ)) : Owed Tryz.prog ops Q l bx sl a0 n w0 i :=
  owe_val ho hw hk fun vs B a w c => by
    have h1 := hx a0 n w0 vs B a w c
    have h2 := hy a0 n w0 vs B a w c
    obtain ⟨x0, x1, e1⟩ := pair_cases hφ h1.now
    obtain ⟨y0, y1, e2⟩ := pair_cases hψ h2.now
    refine ⟨.agg #[x0, x1, y0, y1], ?_, fun w' e' => ⟨x0, x1, y0, y1, rfl, e1 ▸ h1 w' e', e2 ▸ h2 w' e'⟩⟩
    unfold execOp
    rw [hop]
    clear h1 h2 hx hy
    generalize a.eval = ρ at e1 e2
    go_simp
def RL2 (φ ψ : Pr) (lo : Nat) : Pr := fun v w => ∃ g x0 x1 y0 y1 z0 z1 u0 u1, v = .slice (some ⟨g, 0, none⟩) 2 2 ∧ lo ≤ g ∧ w.heap[g]? = some (.cells #[x0, x1, y0, y1, z0, z1, u0, u1] 34 (0, 0)) ∧ φ (.agg #[x0, x1, y0, y1]) w ∧ ψ (.agg #[z0, z1, u0, u1]) w
theorem owe_rl2 {x y : Operand} {φ ψ : Pr} (ho : ops[i]? = some o) (hw : Wants ops l bx sl i o) (hop : o.op = .buildSlice 48 2 #[(0, x), (1, y)]) (hx : Opnd ops l bx sl i x φ) (hy : Opnd ops l bx sl i y ψ) (hφ : Shp 4 φ) (hψ : Shp 4 ψ) (hk : kdAt l i = .val (RL2 φ ψ w0.heap.size)) : Owed Tryz.prog ops Q l bx sl a0 n w0 i :=
  owe_grow ho hw hk fun vs B a w c => by
    have h1 := hx a0 n w0 vs B a w c
    have h2 := hy a0 n w0 vs B a w c
    obtain ⟨x0, x1, y0, y1, e1⟩ := quad_cases hφ h1.now
    obtain ⟨z0, z1, u0, u1, e2⟩ := quad_cases hψ h2.now
    have hb : Below w.heap.size w (w.alloc (.cells #[x0, x1, y0, y1, z0, z1, u0, u1] 34)) := (Below.refl _ _).alloc (Nat.le_refl _) _
    refine ⟨.slice (some ⟨w.heap.size, 0, none⟩) 2 2, w.alloc (.cells #[x0, x1, y0, y1, z0, z1, u0, u1] 34), ?_, hb, fun w' e' => ⟨w.heap.size, x0, x1, y0, y1, z0, z1, u0, u1, rfl, c.lo, ?_, ?_, ?_⟩⟩
    · unfold execOp
      rw [hop]
      clear h1 hx h2 hy
      generalize a.eval = ρ at e1 e2
      go_simp
    · exact (e'.block w.heap.size (by simp) (fun hB => by have := (c.bnd _ hB).2; omega)).trans (heap_alloc_last _ _)
    · rw [← e1]
      exact h1 w' ((Ev.of_below hb).back (fun _ _ h => h) e')
    · rw [← e2]
      exact h2 w' ((Ev.of_below hb).back (fun _ _ h => h) e')
end
end Go.Proofs.YtbgelajoomneiaaGreat

/-
 The calls of rat, of the document's rationals and of their laws, in the form that the logic of statements takes.
-/
namespace Go.Proofs.YtbgelajoomneiaaGreat
open Go Go.RowKit Nt
set_option linter.unusedSimpArgs false
set_option linter.unusedVariables false
set_option maxRecDepth 20000

theorem zv_pos {t : Bool} {ys : List Nat} {D : Nat} (e : sg t (val ys) = (D : Int)) (hD : D ≠ 0) : t = false ∧ val ys = D := by
 cases t
 ·simp only [sg, Bool.false_eq_true, if_false] at e
  exact ⟨rfl, by omega⟩
 ·simp only [sg, if_true] at e
  omega
theorem rt_gives {w : World} {A : Int} {D k k' f : Nat} {args : Array Value} (h : Calls Tryz.prog f args w (Rt w A D k k')) : Calls Tryz.prog f args w (Gives (RN A D) w) := by
 refine h.mono ?_
 rintro e w' ⟨b1, L1, D1, r1, k1, L2, r2, k2, rfl, hb, s1, s2, hN, hL1, hL2, f1, f2⟩
 have hl := s2.out.len
 refine ⟨_, rfl, hb, _, _, _, _, rfl, nm_zn hN.out s1.out f1.out, nm_zn ⟨?_, ?_, ?_⟩ s2.out f2.out⟩
 ·unfold ng; simp
 ·rw [Int.natAbs_natCast]
 ·exact hl
theorem rte_gives {w : World} {A : Int} {D k k' f : Nat} {args : Array Value} (h : Calls Tryz.prog f args w (RtE w A D k k')) : Calls Tryz.prog f args w (Gives (TWO (RN A D) (IS (.int .i64 0))) w) := by
 refine h.mono ?_
 rintro e w' ⟨b1, L1, D1, r1, k1, L2, r2, k2, rfl, hb, s1, s2, hN, hL1, hL2, f1, f2⟩
 have hl := s2.len
 refine ⟨_, rfl, hb, _, _, rfl, ⟨_, _, _, _, rfl, nm_zn hN s1 f1.out, nm_zn ⟨?_, ?_, ?_⟩ s2 f2.out⟩, rfl⟩
 ·unfold ng; simp
 ·rw [Int.natAbs_natCast]
 ·exact hl

theorem g_zform {A : Int} {k : Nat} (hk : k ≤ 70368744177664) : ∀ w u, Zv A k u w → Calls Tryz.prog 28 #[u] w (Gives (ZN A) w) := by
 rintro w u ⟨s, p, n, c, xs, rfl, h, rfl, hn⟩
 refine (zform_c w s p n c xs h (by omega)).mono ?_
 rintro e w' ⟨r, cr, rfl, Z⟩
 exact za_gives Z
/-! rat. -/
theorem g_lowest {A : Int} {D k k' : Nat} (hD : D ≠ 0) (hk : k ≤ 67108864) (hk' : k' ≤ 67108864) : ∀ w u v, Zv A k u w → Zv (D : Int) k' v w → Calls Tryz.prog 40 #[u, v] w (Gives (RN (nR A D) (dR A D)) w) := by
 rintro w u v ⟨s, p, n, c, xs, rfl, h, rfl, hn⟩ ⟨t, q, m, d, ys, rfl, h', eD, hm⟩
 obtain ⟨rfl, rfl⟩ := zv_pos eD hD
 rw [nR_sg, dR_sg]
 exact rt_gives (lowest_c w s p q n c m d xs ys h h' hD (by omega) (by omega))
theorem g_ratmake {A : Int} {D k k' : Nat} (hD : D ≠ 0) (hk : k ≤ 67108864) (hk' : k' ≤ 67108864) : ∀ w u v, Zv A k u w → Zv (D : Int) k' v w → Calls Tryz.prog 19 #[u, v] w (Gives (TWO (RN (nR A D) (dR A D)) (IS (.int .i64 0))) w) := by
 rintro w u v ⟨s, p, n, c, xs, rfl, h, rfl, hn⟩ ⟨t, q, m, d, ys, rfl, h', eD, hm⟩
 obtain ⟨rfl, rfl⟩ := zv_pos eD hD
 rw [nR_sg, dR_sg]
 exact rte_gives (ratmake_pos w s p q n c m d xs ys h h' hD (by omega) (by omega))
theorem g_ratof {A : Int} {k : Nat} (hk : k ≤ 67108864) : ∀ w u, Zv A k u w → Calls Tryz.prog 21 #[u] w (Gives (RN A 1) w) := by
 rintro w u ⟨s, p, n, c, xs, rfl, h, rfl, hn⟩
 exact rt_gives (ratof_c w s p n c xs h (by omega))
theorem g_maybe2 {A D N M : Int} {k1 k2 k3 k4 lo : Nat} (hk : k2 ≤ 67108864) (hk' : k4 ≤ 67108864) : ∀ w u, RL2 (Rv A D k1 k2) (Rv N M k3 k4) lo u w → Calls Tryz.prog 26 #[u] w (Gives (IS (.bool (decide (0 < D.sign) && decide (0 < M.sign)))) w) := by
 rintro w u ⟨g, x0, x1, y0, y1, z0, z1, u0, u1, rfl, _, hg, ⟨a0, a1, b0, b1, e, ⟨s, p, n, c, xs, ea, h, rfl, hn⟩, ⟨t, q, m, d, ys, eb, h', rfl, hm⟩⟩, ⟨a0', a1', b0', b1', e', ⟨s', p', n', c', xs', ea', h2, rfl, hn'⟩, ⟨t', q', m', d', ys', eb', h2', rfl, hm'⟩⟩⟩
 simp at e ea eb e' ea' eb'
 obtain ⟨rfl, rfl, rfl, rfl⟩ := e
 obtain ⟨rfl, rfl⟩ := ea
 obtain ⟨rfl, rfl⟩ := eb
 obtain ⟨rfl, rfl, rfl, rfl⟩ := e'
 obtain ⟨rfl, rfl⟩ := ea'
 obtain ⟨rfl, rfl⟩ := eb'
 refine (mayBe2 w g s p n c t q m d s' p' n' c' t' q' m' d' ys ys' hg h' h2' (by omega) (by omega) _ rfl).mono ?_
 rintro e w' ⟨rfl, hb⟩
 exact ⟨_, rfl, hb, rfl⟩
theorem rl2_imp {φ φ' ψ ψ' : Pr} {lo : Nat} (h : ∀ v w, φ v w → φ' v w) (h' : ∀ v w, ψ v w → ψ' v w) : ∀ v w, RL2 φ ψ lo v w → RL2 φ' ψ' lo v w := fun v w ⟨g, x0, x1, y0, y1, z0, z1, u0, u1, e, hl, hg, a, b⟩ => ⟨g, x0, x1, y0, y1, z0, z1, u0, u1, e, hl, hg, h _ _ a, h' _ _ b⟩
theorem g_ratcmp {A N : Int} {D M k1 k2 k3 k4 : Nat} (hD : D ≠ 0) (hM : M ≠ 0) (b1 : k1 ≤ 8388608) (b2 : k2 ≤ 8388608) (b3 : k3 ≤ 8388608) (b4 : k4 ≤ 8388608) : ∀ w u v, Rv A (D : Int) k1 k2 u w → Rv N (M : Int) k3 k4 v w → Calls Tryz.prog 8 #[u, v] w (Gives (TWO (IS (.int .i64 (A * (M : Int) - N * (D : Int)).sign)) (IS (.int .i64 0))) w) := by
 rintro w u v ⟨x0, x1, y0, y1, rfl, ⟨s, p, n, c, xs, ea, h, rfl, hn⟩, ⟨t, q, m, d, ys, eb, h', eD, hm⟩⟩ ⟨z0, z1, u0, u1, rfl, ⟨s', p', n', c', xs', ea', h2, rfl, hn'⟩, ⟨t', q', m', d', ys', eb', h2', eM, hm'⟩⟩
 simp at ea eb ea' eb'
 obtain ⟨rfl, rfl⟩ := ea
 obtain ⟨rfl, rfl⟩ := eb
 obtain ⟨rfl, rfl⟩ := ea'
 obtain ⟨rfl, rfl⟩ := eb'
 obtain ⟨rfl, rfl⟩ := zv_pos eD hD
 obtain ⟨rfl, rfl⟩ := zv_pos eM hM
 refine (ratcmp_ok w s p n c xs q m d s' p' n' c' xs' q' m' d' ys ys' h h2 h' h2' hD hM (by omega) (by omega) (by omega) (by omega)).mono ?_
 rintro e w' ⟨rfl, hb⟩
 exact ⟨_, rfl, hb, _, _, rfl, rfl, rfl⟩

end Go.Proofs.YtbgelajoomneiaaGreat

/-
 rat.fold hands the one rational of a list to a closure; rules for rat.sum and rat.minus.
-/
namespace Go.Proofs.YtbgelajoomneiaaGreat
open Go Go.RowKit Nt
set_option linter.unusedSimpArgs false
set_option linter.unusedVariables false
set_option maxRecDepth 20000

set_option maxHeartbeats 2000000 in
theorem fold_c (w : World) (g b1 b2 : Nat) (x0 x1 y0 y1 : Value) (s t : Bool) (p q : Option Addr) (n c m d : Nat) (hg : w.heap[g]? = some (.cells #[x0, x1, y0, y1, .bool s, .slice p n c, .bool t, .slice q m d] 34 (0, 0))) (Post : World → World → Prop)
    (SC : Hid (∀ W', Below w.heap.size w W' → Calls Tryz.prog 71 #[.agg #[.bool s, .slice p n c, .bool t, .slice q m d], .pointer (some ⟨b1, 0, none⟩), .pointer (some ⟨b2, 0, none⟩)] W' fun e W'' => e = .returned (.tuple #[]) ∧ Hid (Post W' W''))) :
    Calls Tryz.prog 70 #[.slice (some ⟨g, 4, none⟩) 1 1, .func (.func 71) #[] #[.pointer (some ⟨b1, 0, none⟩), .pointer (some ⟨b2, 0, none⟩)]] w fun e w' => e = .returned (.tuple #[]) ∧ ∃ W1, Below w.heap.size w W1 ∧ Post W1 w' := by
  have c4 : w.cell? ⟨g, 4, none⟩ = some (.bool s) := (cell_of hg).trans rfl
  have c5 : w.cell? ⟨g, 5, none⟩ = some (.slice p n c) := (cell_of hg).trans rfl
  have c6 : w.cell? ⟨g, 6, none⟩ = some (.bool t) := (cell_of hg).trans rfl
  have c7 : w.cell? ⟨g, 7, none⟩ = some (.slice q m d) := (cell_of hg).trans rfl
  clear hg
  go_enter Tryz.func70, Tryz.ntmps70
  go_wp2
  go_loopw [8] (fun i wr => (i = .int .i64 0 ∧ wr = w) ∨ (i = .int .i64 1 ∧ ∃ W1, Hid (Below w.heap.size w W1 ∧ Post W1 wr))) (fun i _ => 1 - (intOf i).toNat)
  case atStart => exact Or.inl ⟨rfl, rfl⟩
  case round =>
    rcases hrel with ⟨rfl, rfl⟩ | ⟨rfl, W1, HB⟩
    · go_wp2_with (go_at_call 71; refine (SC.out _ (below_alloc _ _)).mono ?_; rintro e w1 ⟨rfl, hP⟩)
      go_roundw
      case rel => exact Or.inr ⟨rfl, _, below_alloc _ _, hP⟩
      case measure => simp [intOf]
    · go_wp2
      exact ⟨rfl, .tuple #[], by rw [results_eq, show Func.results _ = #[] from rfl]; simp [Sem.run_bind], rfl, W1, HB.out⟩
end Go.Proofs.YtbgelajoomneiaaGreat

/-
 rat.sum with its closure, rat.minus, rat.Add, rat.Sub.
-/
namespace Go.Proofs.YtbgelajoomneiaaGreat
open Go Go.RowKit Nt
set_option linter.unusedSimpArgs false
set_option linter.unusedVariables false
set_option maxRecDepth 20000


/-- A list of two rationals that came in. -/
def RX (g : Nat) (x0 x1 y0 y1 z0 z1 u0 u1 : Value) (φ ψ φ' ψ' : Pr) : Pr := fun v w => v = .slice (some ⟨g, 0, none⟩) 2 2 ∧ w.heap[g]? = some (.cells #[x0, x1, y0, y1, z0, z1, u0, u1] 34 (0, 0)) ∧ φ (.agg #[x0, x1]) w ∧ ψ (.agg #[y0, y1]) w ∧ φ' (.agg #[z0, z1]) w ∧ ψ' (.agg #[u0, u1]) w
theorem rx_rl2 {g : Nat} {x0 x1 y0 y1 z0 z1 u0 u1 : Value} {φ ψ φ' ψ' : Pr} : ∀ v w, RX g x0 x1 y0 y1 z0 z1 u0 u1 φ ψ φ' ψ' v w → RL2 (PR φ ψ) (PR φ' ψ') 0 v w := fun v w ⟨e, h, a, b, c, d⟩ => ⟨g, x0, x1, y0, y1, z0, z1, u0, u1, e, Nat.zero_le _, h, ⟨_, _, _, _, rfl, a, b⟩, ⟨_, _, _, _, rfl, c, d⟩⟩
section
variable {ops : Array Oper} {l : List Kd} {bx : Bxs} {sl : List (Tmp × Pr)} {i : Nat} {o : Oper} {Q : Exit → Act → World → Prop} {a0 : Act} {n : Nat} {w0 : World}
theorem owe_rxat {x : Operand} {g : Nat} {x0 x1 y0 y1 z0 z1 u0 u1 : Value} {φ ψ φ' ψ' : Pr} (ho : ops[i]? = some o) (hw : Wants ops l bx sl i o) (hop : o.op = .indexAddr 48 x (.const (.int .i64 0))) (hx : Opnd ops l bx sl i x (RX g x0 x1 y0 y1 z0 z1 u0 u1 φ ψ φ' ψ')) (hk : kdAt l i = .val (Is (.pointer (some ⟨g, 0, none⟩)))) : Owed Tryz.prog ops Q l bx sl a0 n w0 i :=
  owe_is ho hw hk fun vs B a w c => by
    have e := (hx a0 n w0 vs B a w c).now.1
    have e2 : a.eval (.const (.int .i64 0)) = .int .i64 0 := rfl
    unfold execOp
    rw [hop]
    generalize a.eval = ρ at e e2
    go_simp
theorem owe_rxload {x y : Operand} {φ χ : Pr} {g off : Nat} {c0 c1 : Value} (ho : ops[i]? = some o) (hw : Wants ops l bx sl i o) (hop : o.op = .load 32 x) (hx : Opnd ops l bx sl i x (Is (.pointer (some ⟨g, off, none⟩)))) (hy : Opnd ops l bx sl i y φ) (h : ∀ v w, φ v w → w.cell? ⟨g, off, none⟩ = some c0 ∧ w.cell? ⟨g, off + 1, none⟩ = some c1 ∧ χ (.agg #[c0, c1]) w) (hk : kdAt l i = .val χ) : Owed Tryz.prog ops Q l bx sl a0 n w0 i :=
 owe_val ho hw hk fun vs B a w c => by
  have hy := hy a0 n w0 vs B a w c
  obtain ⟨h0, h1, _⟩ := h _ w hy.now
  refine ⟨.agg #[c0, c1], ?_, fun w' e' => (h _ w' (hy w' e')).2.2⟩
  have := load_mid (ρ := a.eval) (o := o) (x := x) (hx a0 n w0 vs B a w c).now h0 h1
  rw [← this]
  unfold execOp
  rw [hop]
end
theorem rv4_cells {A D : Int} {k k' : Nat} {x0 x1 y0 y1 : Value} {w : World} (h : Zv A k (.agg #[x0, x1]) w) (h' : Zv D k' (.agg #[y0, y1]) w) : ∃ s p n c t q m d, x0 = .bool s ∧ x1 = .slice p n c ∧ y0 = .bool t ∧ y1 = .slice q m d := by
 obtain ⟨s, p, n, c, xs, e, _⟩ := h
 obtain ⟨t, q, m, d, ys, e', _⟩ := h'
 simp at e e'
 exact ⟨s, p, n, c, t, q, m, d, e.1, e.2, e'.1, e'.2⟩

set_option maxHeartbeats 400000 in
theorem sumclo_w (w w0 : World) (b1 b2 : Nat) (A D N M : Int) (ka kd kn km : Nat) (r u1 u2 : Value) (hcut : Below w0.heap.size w0 w) (hB : ∀ k, (fun k => k = b1 ∨ k = b2) k → w0.heap.size ≤ k ∧ k < w.heap.size) (hne : b1 ≠ b2) (h1 : w.heap[b1]? = some (.cells u1.cells 32 (0, 0))) (h2 : w.heap[b2]? = some (.cells u2.cells 32 (0, 0))) (hu1 : Has (fun k => k = b1 ∨ k = b2) w (Zv A ka) u1) (hu2 : Has (fun k => k = b1 ∨ k = b2) w (Zv D kd) u2) (hr : Has (fun k => k = b1 ∨ k = b2) w (Rv N M kn km) r) (dA : (digs (A * M).natAbs).length ≤ ka + km) (dN : (digs (N * D).natAbs).length ≤ kn + kd) (hs1 : ka ≤ 16777216) (hs2 : kd ≤ 16777216) (hs3 : kn ≤ 16777216) (hs4 : km ≤ 16777216) :
  Calls Tryz.prog 71 #[r, .pointer (some ⟨b1, 0, none⟩), .pointer (some ⟨b2, 0, none⟩)] w (fun e w' => e = .returned (.tuple #[]) ∧ Ev (fun k => k = b1 ∨ k = b2) w w' ∧ ∃ v1 v2 : Value, w'.heap[b1]? = some (.cells v1.cells 32 (0, 0)) ∧ ZN (A * M + N * D) w.heap.size v1 w' ∧ w'.heap[b2]? = some (.cells v2.cells 32 (0, 0)) ∧ ZN (D * M) w.heap.size v2 w') := by
 refine calls_own (bx := [(1, (.box 32 (Zv A ka))), (2, (.box 32 (Zv D kd)))]) (sl := [(0, (PR (Zv N kn) (Zv M km))), (1, (Is (.pointer (some ⟨b1, 0, none⟩)))), (2, (Is (.pointer (some ⟨b2, 0, none⟩))))]) (B := (fun k => k = b1 ∨ k = b2)) Tryz.func71 rfl Tryz.ntmps71 (by simp) hcut hB (by simp only [List.mem_cons, List.not_mem_nil, or_false, forall_eq_or_imp, forall_eq]; exact ⟨⟨_, rfl, b1, u1, rfl, Or.inl rfl, h1, hu1⟩, ⟨_, rfl, b2, u2, rfl, Or.inr rfl, h2, hu2⟩⟩) (by simp only [List.mem_cons, List.not_mem_nil, or_false, forall_eq_or_imp, forall_eq]; simp [vblock]; omega) (by simp only [List.mem_cons, List.not_mem_nil, or_false, forall_eq_or_imp, forall_eq]; exact ⟨⟨_, rfl, hr⟩, ⟨_, rfl, fun _ _ => rfl⟩, ⟨_, rfl, fun _ _ => rfl⟩⟩) ?_
 intro a0 S0
 replace S0 : Sta w0 17 [(1, (.box 32 (Zv A ka))), (2, (.box 32 (Zv D kd)))] [(0, (PR (Zv N kn) (Zv M km))), (1, Is (.pointer (some ⟨b1, 0, none⟩))), (2, Is (.pointer (some ⟨b2, 0, none⟩))), (0, (Keep (fun k => k = b1 ∨ k = b2) w))] (fun k => k = b1 ∨ k = b2) a0 w := S0
 obtain ⟨_, hB0⟩ : ∃ B, B = (fun k => k = b1 ∨ k = b2) := ⟨_, rfl⟩
 refine wq [.new (.box 34 (PR (Zv N kn) (Zv M km)))] [.inr 0, .inr 1, .inl 0] [.inr 1, .inr 2, .inr 3] S0 ?_ ?_
 ·apply jj1
  ·exact owe_box rfl wA rfl (oS 0 0) rfl (fun ρ w h => box_rat (shp_pr shp_zv shp_zv) ρ _ _ w h)
 intro _ a1 _ (S1 : Sta w0 17 [(1, (.box 32 (Zv A ka))), (2, (.box 32 (Zv D kd))), (3, (.box 34 (PR (Zv N kn) (Zv M km))))] [(1, Is (.pointer (some ⟨b1, 0, none⟩))), (2, Is (.pointer (some ⟨b2, 0, none⟩))), (0, (Keep (fun k => k = b1 ∨ k = b2) w))] _ _ _)
 refine wq [.val (Zv A ka), .val (Part a1 3 2), .val (Zv M km), .val ((ZN (A * M)) w.heap.size), .val (Part a1 3 0), .val (Zv N kn), .val (Zv D kd), .val ((ZN (N * D)) w.heap.size), .val ((ZN ((A * M) + (N * D))) w.heap.size), .put (.inl 1) (.box 32 ((ZN ((A * M) + (N * D))) w.heap.size))] [.inr 0, .inr 1, .inr 2] [.inr 0, .inr 1, .inr 2] S1 ?_ ?_
 ·repeat' refine And.intro ?_ ?_
  ·trivial
  ·exact lod 0 wA (loads_of strct_int shp_zv)
  ·exact owe_part rfl wA rfl (k := 2) rfl (by kernel_rfl) rfl (fun ρ w b h => part_rat1 ρ _ _ w b 0 h)
  ·exact owe_pload rfl wA rfl (oO 1 5) (k := 2) rfl (by kernel_rfl) rfl (fun ρ w b u h1 h2 h3 => pload_den ρ _ _ w b u h1 h2 h3)
  ·exact owe_call2K rfl wA rfl (oO 0 4) (oO 2 6) (fresh_zn _) (oS 2 0) rfl (fun args w => by go_simp) (fun w u v h1 h2 => g_zmul (by omega) w u v ((fun _ _ h => h) _ _ h1) ((fun _ _ h => h) _ _ h2))
  ·exact owe_part rfl wA rfl (k := 2) rfl (by kernel_rfl) rfl (fun ρ w b h => part_rat0 ρ _ _ w b 0 h)
  ·exact owe_pload rfl wA rfl (oO 4 8) (k := 2) rfl (by kernel_rfl) rfl (fun ρ w b u h1 h2 h3 => pload_num ρ _ _ w b u h1 h2 h3)
  ·exact lod 1 wA (loads_of strct_int shp_zv)
  ·exact owe_call2K rfl wA rfl (oO 5 9) (oO 6 10) (fresh_zn _) (oS 2 0) rfl (fun args w => by go_simp) (fun w u v h1 h2 => g_zmul (by omega) w u v ((fun _ _ h => h) _ _ h1) ((fun _ _ h => h) _ _ h2))
  ·exact owe_call2K rfl wA rfl (oO 3 7) (oO 7 11) (fresh_zn _) (oS 2 0) rfl (fun args w => by go_simp) (fun w u v h1 h2 => g_zadd (by omega) (by omega) w u v ((zn_zv dA) _ _ h1) ((zn_zv dN) _ _ h2))
  ·exact owe_set rfl wA rfl (k := 0) rfl (by kernel_rfl) (oO 8 12) (stores_of strct_int shp_zv shp_zn) rfl
 intro _ a2 _ (S2 : Sta w0 17 [(1, (.box 32 ((ZN ((A * M) + (N * D))) w.heap.size))), (2, (.box 32 (Zv D kd))), (3, (.box 34 (PR (Zv N kn) (Zv M km))))] [(1, Is (.pointer (some ⟨b1, 0, none⟩))), (2, Is (.pointer (some ⟨b2, 0, none⟩))), (0, (Keep (fun k => k = b1 ∨ k = b2) w))] _ _ _)
 refine wr [.val (Zv D kd), .val (Part a2 3 2), .val (Zv M km), .val ((ZN (D * M)) w.heap.size), .put (.inl 2) (.box 32 ((ZN (D * M)) w.heap.size))] [.inr 0, .inr 1, .inr 2] [.inr 0, .inr 1, .inr 2] S2 ?_ ?_
 ·apply jj5
  ·exact lod 1 wA (loads_of strct_int shp_zv)
  ·exact owe_part rfl wA rfl (k := 2) rfl (by kernel_rfl) rfl (fun ρ w b h => part_rat1 ρ _ _ w b 0 h)
  ·exact owe_pload rfl wA rfl (oO 1 14) (k := 2) rfl (by kernel_rfl) rfl (fun ρ w b u h1 h2 h3 => pload_den ρ _ _ w b u h1 h2 h3)
  ·exact owe_call2K rfl wA rfl (oO 0 13) (oO 2 15) (fresh_zn _) (oS 2 0) rfl (fun args w => by go_simp) (fun w u v h1 h2 => g_zmul (by omega) w u v ((fun _ _ h => h) _ _ h1) ((fun _ _ h => h) _ _ h2))
  ·exact owe_set rfl wA rfl (k := 1) rfl (by kernel_rfl) (oO 3 16) (stores_of strct_int shp_zv shp_zn) rfl
 intro _ a3 _ (S3 : Sta w0 17 [(1, (.box 32 ((ZN ((A * M) + (N * D))) w.heap.size))), (2, (.box 32 ((ZN (D * M)) w.heap.size))), (3, (.box 34 (PR (Zv N kn) (Zv M km))))] [(1, Is (.pointer (some ⟨b1, 0, none⟩))), (2, Is (.pointer (some ⟨b2, 0, none⟩))), (0, (Keep (fun k => k = b1 ∨ k = b2) w))] _ _ _)
 refine (end_none S3 rfl ?_).1
 obtain ⟨v1, e1, f1⟩ := S3.content_at 0 1 rfl 0 rfl
 obtain ⟨v2, e2, f2⟩ := S3.content_at 1 2 rfl 1 rfl
 exact ⟨rfl, S3.slot 2 0 rfl, v1, v2, e1, f1, e2, f2⟩

theorem eval_self {a : Act} {d : Tmp} {v : Value} (h : d < a.tmps.size) : (a.put (some d) v).eval (.tmp d) = v := by simp [Act.eval, Act.put, h]
theorem eval_far {a : Act} {d t : Tmp} {v : Value} (h : t ≠ d) : (a.put (some d) v).eval (.tmp t) = a.eval (.tmp t) := Act.eval_put (fun d' hd' e => by
  cases hd'
  simp at e
  first | exact h e | exact h e.symm)
theorem Sta.drop1 {w0 W : World} {n : Nat} {bx : Bxs} {x : Tmp × Pr} {sl : List (Tmp × Pr)} {B : Nat → Prop} {a : Act} (S : Sta w0 n bx (x :: sl) B a W) : Sta w0 n bx sl B a W := ⟨S.ent, S.bnd, S.siz, S.dfr, S.box, S.sep, fun y hy => S.slt y (List.mem_cons_of_mem _ hy)⟩

theorem rx_has {g : Nat} {x0 x1 y0 y1 z0 z1 u0 u1 : Value} {A D N M : Int} {k1 k2 k3 k4 : Nat} {w : World} {v : Value} (h : RX g x0 x1 y0 y1 z0 z1 u0 u1 (Zv A k1) (Zv D k2) (Zv N k3) (Zv M k4) v w) : Has (fun _ => False) w (RX g x0 x1 y0 y1 z0 z1 u0 u1 (Zv A k1) (Zv D k2) (Zv N k3) (Zv M k4)) v := fun w' e =>
 ⟨h.1, (e.block g (Array.getElem?_eq_some_iff.1 h.2.1).1 (fun x => x)).trans h.2.1, zv_has h.2.2.1 w' e, zv_has h.2.2.2.1 w' e, zv_has h.2.2.2.2.1 w' e, zv_has h.2.2.2.2.2 w' e⟩

abbrev q5pzv0  : Rk := .box 34 zR
abbrev q5pzv1 (w : World) (A : Int) (N : Int) (D : Nat) (M : Nat) : Pr := (RN (nR (A * (M : Int) + N * (D : Int)) (D * M)) (dR (A * (M : Int) + N * (D : Int)) (D * M))) w.heap.size
set_option maxHeartbeats 1000000 in
theorem sum_w (w : World) (g : Nat) (x0 x1 y0 y1 z0 z1 u0 u1 : Value) (A N : Int) (D M k1 k2 k3 k4 : Nat) (h : RX g x0 x1 y0 y1 z0 z1 u0 u1 (Zv A k1) (Zv (D : Int) k2) (Zv N k3) (Zv (M : Int) k4) (.slice (some ⟨g, 0, none⟩) 2 2) w) (hk1 : k1 ≤ 8388608) (hk2 : k2 ≤ 8388608) (hk3 : k3 ≤ 8388608) (hk4 : k4 ≤ 8388608) (hD : D ≠ 0) (hM : M ≠ 0) (hDM : D * M ≠ 0) (hmay : (decide (0 < (D : Int).sign) && decide (0 < (M : Int).sign)) = true) (dAM : (digs (A * (M : Int)).natAbs).length ≤ k1 + k4) (dND : (digs (N * (D : Int)).natAbs).length ≤ k3 + k2) (dS : (digs (A * (M : Int) + N * (D : Int)).natAbs).length ≤ 33554433) (dDM : (digs ((D * M : Nat) : Int).natAbs).length ≤ 33554432) :
  Calls Tryz.prog 46 #[.slice (some ⟨g, 0, none⟩) 2 2] w (Gives (TWO (RN (nR (A * (M : Int) + N * (D : Int)) (D * M)) (dR (A * (M : Int) + N * (D : Int)) (D * M))) (IS (.int .i64 0))) w) := by
 refine calls_sta (sl := [(0, (RX g x0 x1 y0 y1 z0 z1 u0 u1 (Zv A k1) (Zv (D : Int) k2) (Zv N k3) (Zv (M : Int) k4)))]) Tryz.func46 rfl Tryz.ntmps46 (by simp) (args_cons rfl (rx_has h) args_nil) ?_
 intro a0 S0
 refine wq [.new (q5pzv0), .val (iV 0)] [.inl 0] [.inl 1, .inr 0] S0 ?_ ?_
 ·apply jj2
  ·exact owe_new rfl wA rfl rfl (fun ρ w => alloc_rat ρ _ w)
  ·exact mC
 intro _ a1 W1 (S1 : Sta w 25 [(2, (q5pzv0))] [(3, iV 0), (0, (RX g x0 x1 y0 y1 z0 z1 u0 u1 (Zv A k1) (Zv (D : Int) k2) (Zv N k3) (Zv (M : Int) k4)))] _ _ _)
 refine wp_seq ?_
 refine wq [.val (RX g x0 x1 y0 y1 z0 z1 u0 u1 (Zv A k1) (Zv (D : Int) k2) (Zv N k3) (Zv (M : Int) k4)), kT, kF] [.inr 0] [.inl 2, .inr 0, .inr 1] S1 ?_ ?_
 ·apply jj3
  ·exact mS 1 0
  ·exact cc1 wA (qO 0 6 rfl) (fresh_is _) (fun w u0 h0 => Gives.cast ((fun w u h1 => g_maybe2 (by omega) (by omega) w u (rx_rl2 _ _ h1)) w u0 h0) (by rw [hmay]))
  ·exact b_not wA (oO 1 7)
 intro _ a2 _ (S2 : Sta w 25 [(2, (q5pzv0))] [(8, bF), (3, iV 0), (0, (RX g x0 x1 y0 y1 z0 z1 u0 u1 (Zv A k1) (Zv (D : Int) k2) (Zv N k3) (Zv (M : Int) k4)))] _ _ _)
 refine wp_cond_false (S2.bool 0 8 rfl) (wp_skip (thenN ?_))
 refine wq [.val (RX g x0 x1 y0 y1 z0 z1 u0 u1 (Zv A k1) (Zv (D : Int) k2) (Zv N k3) (Zv (M : Int) k4)), .val (Is (.pointer (some ⟨g, 0, none⟩))), .val (Is (.pointer (some ⟨g, 0, none⟩))), .val (Zv A k1), .val (RX g x0 x1 y0 y1 z0 z1 u0 u1 (Zv A k1) (Zv (D : Int) k2) (Zv N k3) (Zv (M : Int) k4)), .val (Is (.pointer (some ⟨g, 0, none⟩))), .val (Is (.pointer (some ⟨g, 2, none⟩))), .val (Zv ((D : Int)) k2), .new (.box 32 zI), .new (.box 32 zI), .put (.inr 8) (.box 32 (Zv A k1)), .put (.inr 9) (.box 32 (Zv ((D : Int)) k2))] [.inr 0, .inl 8, .inl 9] [.inr 0, .inr 1, .inr 2] S2 ?_ ?_
 ·repeat' refine And.intro ?_ ?_
  ·trivial
  ·exact mS 2 0
  ·exact owe_rxat rfl wA rfl (oO 0 10) rfl
  ·exact owe_un (x := .tmp 11) rfl wA rfl (oO 1 11) rfl (fun ρ w h1 => by exact part_rat0 ρ _ _ w g 0 h1)
  ·exact owe_rxload rfl wA rfl (qO 2 12 rfl) (qS 2 0 rfl) (fun v w h => ⟨(cell_of h.2.1).trans rfl, (cell_of h.2.1).trans rfl, h.2.2.1⟩) rfl
  ·exact mS 2 0
  ·exact owe_rxat rfl wA rfl (oO 4 14) rfl
  ·exact owe_un (x := .tmp 15) rfl wA rfl (oO 5 15) rfl (fun ρ w h1 => by exact part_rat1 ρ _ _ w g 0 h1)
  ·exact owe_rxload rfl wA rfl (qO 6 16 rfl) (qS 2 0 rfl) (fun v w h => ⟨(cell_of h.2.1).trans rfl, (cell_of h.2.1).trans rfl, h.2.2.2.1⟩) rfl
  ·exact owe_new rfl wA rfl rfl (fun ρ w => alloc_int ρ _ w)
  ·exact owe_new rfl wA rfl rfl (fun ρ w => alloc_int ρ _ w)
  ·exact owe_put 8 rfl wA rfl (by kernel_rfl) rfl (oO 3 13) (stores_of strct_int shp_z0 shp_zv) rfl
  ·exact owe_put 9 rfl wA rfl (by kernel_rfl) rfl (oO 7 17) (stores_of strct_int shp_z0 shp_zv) rfl
 intro B3 a3 W3 (S3 : Sta w 25 [(2, (q5pzv0)), (4, (.box 32 (Zv A k1))), (5, (.box 32 (Zv ((D : Int)) k2)))] [(8, bF), (3, iV 0), (0, (RX g x0 x1 y0 y1 z0 z1 u0 u1 (Zv A k1) (Zv (D : Int) k2) (Zv N k3) (Zv (M : Int) k4)))] _ _ _)
 refine wp_seq (wp_region_lit ?_)
 obtain ⟨c1, v1, p4, B4, q4, f4⟩ := S3.box _ (List.mem_of_getElem? (show ([(2, (.box 34 zR)), (4, (.box 32 (Zv A k1))), (5, (.box 32 (Zv ((D : Int)) k2)))] : Bxs)[1]? = some _ from rfl))
 obtain ⟨c2, v2, p5, B5, q5, f5⟩ := S3.box _ (List.mem_of_getElem? (show ([(2, (.box 34 zR)), (4, (.box 32 (Zv A k1))), (5, (.box 32 (Zv ((D : Int)) k2)))] : Bxs)[2]? = some _ from rfl))
 obtain ⟨er, hg, hA, hD2, hN, hM2⟩ := S3.slot 2 0 rfl
 have hne : c1 ≠ c2 := fun e => by have := S3.sep _ (List.mem_of_getElem? (show ([(2, (.box 34 zR)), (4, (.box 32 (Zv A k1))), (5, (.box 32 (Zv ((D : Int)) k2)))] : Bxs)[1]? = some _ from rfl)) _ (List.mem_of_getElem? (show ([(2, (.box 34 zR)), (4, (.box 32 (Zv A k1))), (5, (.box 32 (Zv ((D : Int)) k2)))] : Bxs)[2]? = some _ from rfl)) c1 (by show vblock (a3.eval (.tmp 4)) = _; rw [p4]; rfl) (by show vblock (a3.eval (.tmp 5)) = _; rw [p5, e]; rfl); exact absurd this (show ¬ (4 : Nat) = 5 by decide)
 refine wpl_val (W' := W3) (v := a3.eval (.tmp 0)) rfl rfl ?_
 refine wpl_val (W' := W3) (v := .slice (some ⟨g, 4, none⟩) 1 1) rfl (by have e0 : (a3.put (some 18) (a3.eval (.tmp 0))).eval (.tmp 18) = .slice (some ⟨g, 0, none⟩) 2 2 := (eval_self (by rw [S3.siz]; decide)).trans er; have e1 : (a3.put (some 18) (a3.eval (.tmp 0))).eval (.const (.int .i64 1)) = .int .i64 1 := rfl; unfold execOp; clear hA hD2 hN hM2 hg f4 f5; generalize (a3.put (some 18) (a3.eval (.tmp 0))).eval = ρ at e0 e1; go_simp) ?_
 obtain ⟨a, ea, T4, T5, T2, T0⟩ : ∃ a, ((a3.put (some 18) (a3.eval (.tmp 0))).put (some 19) (.slice (some ⟨g, 4, none⟩) 1 1)) = a ∧ a.eval (.tmp 4) = a3.eval (.tmp 4) ∧ a.eval (.tmp 5) = a3.eval (.tmp 5) ∧ a.eval (.tmp 19) = .slice (some ⟨g, 4, none⟩) 1 1 ∧ Sta w 25 [(2, (q5pzv0)), (4, (.box 32 (Zv A k1))), (5, (.box 32 (Zv ((D : Int)) k2)))] [(8, bF), (3, iV 0), (0, (RX g x0 x1 y0 y1 z0 z1 u0 u1 (Zv A k1) (Zv (D : Int) k2) (Zv N k3) (Zv (M : Int) k4)))] B3 a W3 := ⟨_, rfl, (eval_far (by decide)).trans (eval_far (by decide)), (eval_far (by decide)).trans (eval_far (by decide)), eval_self (by rw [put_size, S3.siz]; decide), ((S3.put (d := 18) (φ := fun _ _ => True) (by decide) (fun _ _ => trivial) [(2, (q5pzv0)), (4, (.box 32 (Zv A k1))), (5, (.box 32 (Zv ((D : Int)) k2)))] [(8, bF), (3, iV 0), (0, (RX g x0 x1 y0 y1 z0 z1 u0 u1 (Zv A k1) (Zv (D : Int) k2) (Zv N k3) (Zv (M : Int) k4)))] (by simp) (by simp)).put (d := 19) (φ := fun _ _ => True) (by decide) (fun _ _ => trivial) [(2, (q5pzv0)), (4, (.box 32 (Zv A k1))), (5, (.box 32 (Zv ((D : Int)) k2)))] [(8, bF), (3, iV 0), (0, (RX g x0 x1 y0 y1 z0 z1 u0 u1 (Zv A k1) (Zv (D : Int) k2) (Zv N k3) (Zv (M : Int) k4)))] (by simp) (by simp)).drop1⟩
 rw [show (a3.put (some 18) (a3.eval (.tmp 0))).put _ (.slice (some ⟨g, 4, none⟩) 1 1) = a from ea]
 rw [p4] at T4
 rw [p5] at T5
 refine wpl_val (W' := W3) (v := .func (.func 71) #[] #[.pointer (some ⟨c1, 0, none⟩), .pointer (some ⟨c2, 0, none⟩)]) rfl (by unfold execOp; clear hA hD2 hN hM2 hg f4 f5 T0 ea; generalize a.eval = ρ at T4 T5; go_simp) ?_
 obtain ⟨a', ea', U2, U0, UT⟩ : ∃ a', (a.put (some 20) (.func (.func 71) #[] #[.pointer (some ⟨c1, 0, none⟩), .pointer (some ⟨c2, 0, none⟩)])) = a' ∧ a'.eval (.tmp 19) = .slice (some ⟨g, 4, none⟩) 1 1 ∧ a'.eval (.tmp 20) = .func (.func 71) #[] #[.pointer (some ⟨c1, 0, none⟩), .pointer (some ⟨c2, 0, none⟩)] ∧ (a'.eval (.tmp 4) = .pointer (some ⟨c1, 0, none⟩) ∧ a'.eval (.tmp 5) = .pointer (some ⟨c2, 0, none⟩) ∧ Sta w 25 [(2, (q5pzv0)), (4, (.box 32 (Zv A k1))), (5, (.box 32 (Zv ((D : Int)) k2)))] [(8, bF), (3, iV 0), (0, (RX g x0 x1 y0 y1 z0 z1 u0 u1 (Zv A k1) (Zv (D : Int) k2) (Zv N k3) (Zv (M : Int) k4)))] B3 a' W3) := ⟨_, rfl, (eval_far (by decide)).trans T2, eval_self (by rw [T0.siz]; decide), (eval_far (by decide)).trans T4, (eval_far (by decide)).trans T5, (T0.put (d := 20) (φ := fun _ _ => True) (by decide) (fun _ _ => trivial) [(2, (q5pzv0)), (4, (.box 32 (Zv A k1))), (5, (.box 32 (Zv ((D : Int)) k2)))] [(8, bF), (3, iV 0), (0, (RX g x0 x1 y0 y1 z0 z1 u0 u1 (Zv A k1) (Zv (D : Int) k2) (Zv N k3) (Zv (M : Int) k4)))] (by simp) (by simp)).drop1⟩
 rw [show a.put _ (.func (.func 71) #[] #[.pointer (some ⟨c1, 0, none⟩), .pointer (some ⟨c2, 0, none⟩)]) = a' from ea']
 obtain ⟨V4, V5, S4⟩ := UT
 obtain ⟨s2, p2, n2, d2, t2, q2, m2, o2, ez0, ez1, eu0, eu1⟩ := rv4_cells hN hM2
 have hg2 := hg
 rw [ez0, ez1, eu0, eu1] at hg2
 refine wpl_call (f := 70) (args := #[.slice (some ⟨g, 4, none⟩) 1 1, .func (.func 71) #[] #[.pointer (some ⟨c1, 0, none⟩), .pointer (some ⟨c2, 0, none⟩)]]) rfl (by have hf : a'.eval (.func 70) = .func (.func 70) #[] #[] := rfl; unfold execOp; clear hA hD2 hN hM2 hg f4 f5 T0 ea ea' S4; generalize a'.eval = ρ at U2 U0 hf; go_simp) ?_
 have hb := S3.bnd
 have bc1 := hb c1 B4
 have bc2 := hb c2 B5
 have mm : ∀ j, (j = c1 ∨ j = c2) → B3 j := fun j hj => by rcases hj with rfl | rfl; exact B4; exact B5
 have SC : Hid (∀ W', Below W3.heap.size W3 W' → Calls Tryz.prog 71 #[.agg #[.bool s2, .slice p2 n2 d2, .bool t2, .slice q2 m2 o2], .pointer (some ⟨c1, 0, none⟩), .pointer (some ⟨c2, 0, none⟩)] W' fun e W'' => e = .returned (.tuple #[]) ∧ Hid (Ev (fun k => k = c1 ∨ k = c2) W' W'' ∧ ∃ v1 v2 : Value, W''.heap[c1]? = some (.cells v1.cells 32 (0, 0)) ∧ ZN (A * (M : Int) + N * (D : Int)) W'.heap.size v1 W'' ∧ W''.heap[c2]? = some (.cells v2.cells 32 (0, 0)) ∧ ZN ((D : Int) * (M : Int)) W'.heap.size v2 W'')) := fun W' hW => by
  have evW : Ev B3 W3 W' := Ev.of_below hW
  have up : ∀ {φ : Pr} {v : Value}, Has B3 W3 φ v → Has (fun k => k = c1 ∨ k = c2) W' φ v := fun h => fun w'' e'' => h w'' (evW.back (fun k _ hk => mm k hk) e'')
  refine (sumclo_w W' (cutW W' (min c1 c2)) c1 c2 A (D : Int) N (M : Int) k1 k2 k3 k4 _ v1 v2 (below_cut (by have := hW.size; omega)) (fun j hj => by have := hW.size; rw [cutW_size (by omega)]; rcases hj with rfl | rfl <;> omega) hne ((hW.block _ bc1.2).trans q4) ((hW.block _ bc2.2).trans q5) (up f4) (up f5) (by rw [← ez0, ← ez1, ← eu0, ← eu1]; exact up (fun w'' e'' => (⟨_, _, _, _, rfl, (S3.slt _ (List.mem_of_getElem? (show ([(8, bF), (3, (iV 0)), (0, (RX g x0 x1 y0 y1 z0 z1 u0 u1 (Zv A k1) (Zv (D : Int) k2) (Zv N k3) (Zv (M : Int) k4)))] : List (Tmp × Pr))[2]? = some _ from rfl)) w'' e'').2.2.2.2.1, (S3.slt _ (List.mem_of_getElem? (show ([(8, bF), (3, (iV 0)), (0, (RX g x0 x1 y0 y1 z0 z1 u0 u1 (Zv A k1) (Zv (D : Int) k2) (Zv N k3) (Zv (M : Int) k4)))] : List (Tmp × Pr))[2]? = some _ from rfl)) w'' e'').2.2.2.2.2⟩ : PR (Zv N k3) (Zv (M : Int) k4) _ w''))) dAM dND (by omega) (by omega) (by omega) (by omega)).mono ?_
  rintro e W'' ⟨rfl, he, x1, x2, y1, y2, y3, y4⟩
  exact ⟨rfl, he, x1, x2, y1, y2, y3, y4⟩
 refine (fold_c W3 g c1 c2 x0 x1 y0 y1 s2 t2 p2 q2 n2 d2 m2 o2 hg2 _ SC).mono ?_
 rintro e W' ⟨rfl, W1, hW1, he, x1', x2', y1', y2', y3', y4'⟩
 refine ⟨_, rfl, ?_⟩
 have eA : Ev (fun k => k = c1 ∨ k = c2) W3 W' := ⟨he.os.trans hW1.os, he.tape.trans hW1.tape, he.output.trans hW1.output, Nat.le_trans hW1.size he.size, fun j hj hn => (he.block j (Nat.lt_of_lt_of_le hj hW1.size) hn).trans (hW1.block j hj)⟩
 have lowW : w.heap.size ≤ W1.heap.size := Nat.le_trans S3.ent.size hW1.size
 have fz : ∀ {ψ : Nat → Pr} {v : Value}, Fresh ψ → ψ W1.heap.size v W' → Has B3 W' (ψ w.heap.size) v := fun hF h w'' e'' => hF.mono _ _ _ _ lowW (hF.ev _ _ _ _ B3 (fun j hj => Nat.lt_of_lt_of_le (hb j hj).2 hW1.size) h e'')
 rw [show ((D : Int) * (M : Int)) = ((D * M : Nat) : Int) from by rw [Int.natCast_mul]] at y4'
 have S5 := S4.turn (bx' := [(2, (.box 34 zR)), (4, (.box 32 ((ZN (A * (M : Int) + N * (D : Int))) w.heap.size))), (5, (.box 32 ((ZN (((D * M : Nat) : Int))) w.heap.size)))]) eA mm (by
  intro x hx
  simp only [List.mem_cons, List.not_mem_nil, or_false] at hx
  rcases hx with rfl | rfl | rfl
  ·exact ⟨⟨_, List.mem_of_getElem? (show _[0]? = some _ from rfl)⟩, S4.still eA mm (List.mem_of_getElem? (show _[0]? = some _ from rfl)) (fun b hb2 hs => by rcases hs with rfl | rfl; exact absurd (S4.sep _ (List.mem_of_getElem? (show _[0]? = some _ from rfl)) _ (List.mem_of_getElem? (show _[1]? = some _ from rfl)) _ hb2 (by show vblock (a'.eval (.tmp 4)) = _; rw [V4]; rfl)) (show ¬ (2 : Nat) = 4 by decide); exact absurd (S4.sep _ (List.mem_of_getElem? (show _[0]? = some _ from rfl)) _ (List.mem_of_getElem? (show _[2]? = some _ from rfl)) _ hb2 (by show vblock (a'.eval (.tmp 5)) = _; rw [V5]; rfl)) (show ¬ (2 : Nat) = 5 by decide))⟩
  ·exact ⟨⟨_, List.mem_of_getElem? (show _[1]? = some _ from rfl)⟩, c1, x1', V4, B4, y1', fz (fresh_zn _) y2'⟩
  ·exact ⟨⟨_, List.mem_of_getElem? (show _[2]? = some _ from rfl)⟩, c2, x2', V5, B5, y3', fz (fresh_zn _) y4'⟩
 )
 replace S5 := (S5.put (d := 21) (v := .tuple #[]) (φ := fun _ _ => True) (by decide) (fun _ _ => trivial) [(2, (.box 34 zR)), (4, (.box 32 ((ZN (A * (M : Int) + N * (D : Int))) w.heap.size))), (5, (.box 32 ((ZN (((D * M : Nat) : Int))) w.heap.size)))] [(8, bF), (3, (iV 0)), (0, (RX g x0 x1 y0 y1 z0 z1 u0 u1 (Zv A k1) (Zv (D : Int) k2) (Zv N k3) (Zv (M : Int) k4)))] (by simp) (by simp)).drop1
 refine wpList_nil (thenN ?_)
 obtain ⟨a5, W5, B5, e1, e2, e3⟩ : ∃ a W B, a'.put (some 21) (.tuple #[]) = a ∧ W' = W ∧ B3 = B := ⟨_, _, _, rfl, rfl, rfl⟩
 rw [show a'.put _ (.tuple #[]) = a5 from e1, e2]
 rw [e1, e2, e3] at S5
 replace S5 : Sta w 25 [(2, (q5pzv0)), (4, (.box 32 ((ZN (A * (M : Int) + N * (D : Int))) w.heap.size))), (5, (.box 32 ((ZN (((D * M : Nat) : Int))) w.heap.size)))] [(8, bF), (3, iV 0), (0, (RX g x0 x1 y0 y1 z0 z1 u0 u1 (Zv A k1) (Zv (D : Int) k2) (Zv N k3) (Zv (M : Int) k4)))] B5 a5 W5 := S5
 refine wq [.val ((ZN (A * (M : Int) + N * (D : Int))) w.heap.size), .val ((ZN (((D * M : Nat) : Int))) w.heap.size), .val (q5pzv1 w A N D M), .put (.inl 2) (.box 34 (q5pzv1 w A N D M)), .val (iV 0)] [.inr 0, .inr 1, .inr 2] [.inl 4, .inr 0, .inr 2] S5 ?_ ?_
 ·apply jj5
  ·exact lod 1 wA (loads_of strct_int shp_zn)
  ·exact lod 2 wA (loads_of strct_int shp_zn)
  ·exact cc2 wA (qO 0 22 rfl) (qO 1 23 rfl) (fresh_rn _ _) (fun w u v h1 h2 => g_lowest hDM (by omega) (by omega) w u v ((zn_zv dS) _ _ h1) ((zn_zv dDM) _ _ h2))
  ·exact owe_set rfl wA rfl (k := 0) rfl (by kernel_rfl) (oO 2 24) (stores_of strct_rat shp_r0 (shp_pr shp_zn shp_zn)) rfl
  ·exact mC
 intro _ a6 _ (S6 : Sta w 25 [(2, (.box 34 (q5pzv1 w A N D M))), (4, (.box 32 ((ZN (A * (M : Int) + N * (D : Int))) w.heap.size))), (5, (.box 32 ((ZN (((D * M : Nat) : Int))) w.heap.size)))] [(3, iV 0), (8, bF), (0, (RX g x0 x1 y0 y1 z0 z1 u0 u1 (Zv A k1) (Zv (D : Int) k2) (Zv N k3) (Zv (M : Int) k4)))] _ _ _)
 refine wp_ret ?_
 exact end_two S6 rfl (res_cell S6 0 2 rfl strct_rat (shp_pr shp_zn shp_zn)) (res_tmp S6 0 3 rfl)

theorem pos_sign {D : Nat} (h : D ≠ 0) : (D : Int).sign = 1 := Int.sign_eq_one_of_pos (by omega)
theorem zvn_len {A : Int} {k : Nat} {u : Value} {w : World} (h : Zv A k u w) : (digs A.natAbs).length ≤ k := by
 obtain ⟨s, p, n, c, xs, rfl, hs, rfl, hn⟩ := h
 exact Nat.le_trans (sg_dl hs) hn
/-- The sum of two rationals. -/
def adN (A N : Int) (D M : Nat) : Int := A * (M : Int) + N * (D : Int)
theorem g_sum {A N : Int} {D M k1 k2 k3 k4 lo : Nat} (hD : D ≠ 0) (hM : M ≠ 0) (hk1 : k1 ≤ 8388608) (hk2 : k2 ≤ 8388608) (hk3 : k3 ≤ 8388608) (hk4 : k4 ≤ 8388608) : ∀ w u, RL2 (Rv A (D : Int) k1 k2) (Rv N (M : Int) k3 k4) lo u w → Calls Tryz.prog 46 #[u] w (Gives (TWO (RN (nR (adN A N D M) (D * M)) (dR (adN A N D M) (D * M))) (IS (.int .i64 0))) w) := by
 rintro w u ⟨g, x0, x1, y0, y1, z0, z1, u0, u1, rfl, _, hg, ⟨a0, a1, b0, b1, e, hA, hD'⟩, ⟨a2, a3, b2, b3, e', hN, hM'⟩⟩
 simp at e e'
 obtain ⟨rfl, rfl, rfl, rfl⟩ := e
 obtain ⟨rfl, rfl, rfl, rfl⟩ := e'
 have lA := zvn_len hA
 have lD := zvn_len hD'
 have lN := zvn_len hN
 have lM := zvn_len hM'
 have dAM := dl_mul lA lM
 have dND := dl_mul lN lD
 have dDM := dl_mul lD lM
 rw [← Int.natCast_mul] at dDM
 exact sum_w w g _ _ _ _ _ _ _ _ A N D M k1 k2 k3 k4 ⟨rfl, hg, hA, hD', hN, hM'⟩ hk1 hk2 hk3 hk4 hD hM (Nat.mul_ne_zero hD hM) (by rw [pos_sign hD, pos_sign hM]; rfl) dAM dND (dl_add (k := 33554432) (by omega) (by omega)) (by omega)
end Go.Proofs.YtbgelajoomneiaaGreat

/-
 Rationals in lowest terms: one form for each, how long it is, what sums, products and quotients make.
-/
namespace Go.Proofs.YtbgelajoomneiaaGreat
open Go Go.RowKit Nt
set_option linter.unusedSimpArgs false
set_option linter.unusedVariables false
set_option maxRecDepth 20000

theorem nR_mul (P : Int) (Y : Nat) : nR P Y * (Y : Int) = P * (dR P Y : Int) := by
 have h1 := g_nR P Y
 have h2 := g_dR P Y
 have h3 : ((Nat.gcd P.natAbs Y : Nat) : Int) * (dR P Y : Int) = (Y : Int) := by rw [← Int.natCast_mul, h2]
 generalize ((Nat.gcd P.natAbs Y : Nat) : Int) = G at h1 h3
 grind
theorem nR_abs (P : Int) (Y : Nat) : (nR P Y).natAbs = P.natAbs / Nat.gcd P.natAbs Y := by unfold nR; rw [sg_abs]
theorem nR_len {P : Int} {Y k : Nat} (h : (digs P.natAbs).length ≤ k) : (digs (nR P Y).natAbs).length ≤ k := by
 rw [nR_abs]
 exact Nat.le_trans (digs_length_mono (Nat.div_le_self _ _)) h
theorem dR_len {P : Int} {Y k : Nat} (h : (digs Y).length ≤ k) : (digs (dR P Y)).length ≤ k := by
 unfold dR
 exact Nat.le_trans (digs_length_mono (Nat.div_le_self _ _)) h
theorem low_cop {P : Int} {Y : Nat} (hY : Y ≠ 0) : Nat.gcd (nR P Y).natAbs (dR P Y) = 1 := by
 rw [nR_abs]
 unfold dR
 have hg : 0 < Nat.gcd P.natAbs Y := Nat.gcd_pos_of_pos_right _ (by omega)
 exact Nat.gcd_div_gcd_div_gcd_of_pos_right (by omega)
theorem cross_eq {a b a' b' : Nat} (h : a * b' = a' * b) (c : Nat.gcd a b = 1) (c' : Nat.gcd a' b' = 1) (hb : b ≠ 0) : b = b' := by
 have h1 : b ∣ a * b' := ⟨a', by rw [h, Nat.mul_comm]⟩
 have h2 : b ∣ b' := Nat.Coprime.dvd_of_dvd_mul_left (Nat.Coprime.symm c) h1
 have h3 : b' ∣ a' * b := ⟨a, by rw [← h, Nat.mul_comm]⟩
 have h4 : b' ∣ b := Nat.Coprime.dvd_of_dvd_mul_left (Nat.Coprime.symm c') h3
 exact Nat.dvd_antisymm h2 h4
/-- One form for each rational. -/
theorem low_one {P P' : Int} {Y Y' : Nat} (hY : Y ≠ 0) (hY' : Y' ≠ 0) (h : P * (Y' : Int) = P' * (Y : Int)) : nR P Y = nR P' Y' ∧ dR P Y = dR P' Y' := by
 have e1 := nR_mul P Y
 have e2 := nR_mul P' Y'
 have hy : (Y : Int) ≠ 0 := by omega
 have hy' : (Y' : Int) ≠ 0 := by omega
 have k : nR P Y * (dR P' Y' : Int) = nR P' Y' * (dR P Y : Int) := by
  have : ((Y : Int) * (Y' : Int)) * (nR P Y * (dR P' Y' : Int)) = ((Y : Int) * (Y' : Int)) * (nR P' Y' * (dR P Y : Int)) := by
   generalize nR P Y = n at *
   generalize nR P' Y' = n' at *
   generalize (dR P Y : Int) = d at *
   generalize (dR P' Y' : Int) = d' at *
   by_cases hP : P = 0
   ·have h0 : P' = 0 := by
     rw [hP, Int.zero_mul] at h
     rcases Int.mul_eq_zero.1 h.symm with h | h
     ·exact h
     ·exact absurd h hy
    have n0 : n = 0 := by
     rw [hP, Int.zero_mul] at e1
     rcases Int.mul_eq_zero.1 e1 with h | h
     ·exact h
     ·exact absurd h hy
    have n0' : n' = 0 := by
     rw [h0, Int.zero_mul] at e2
     rcases Int.mul_eq_zero.1 e2 with h | h
     ·exact h
     ·exact absurd h hy'
    rw [n0, n0']
    simp
   ·have : P * ((Y : Int) * (Y' : Int) * (n * d')) = P * ((Y : Int) * (Y' : Int) * (n' * d)) := by grind
    exact Int.eq_of_mul_eq_mul_left hP this
  exact Int.eq_of_mul_eq_mul_left (Int.mul_ne_zero hy hy') this
 have ka : (nR P Y).natAbs * dR P' Y' = (nR P' Y').natAbs * dR P Y := by
  have := congrArg Int.natAbs k
  simpa [Int.natAbs_mul] using this
 have hd := cross_eq ka (low_cop hY) (low_cop hY') (dR_ne hY)
 refine ⟨?_, hd⟩
 rw [hd] at k
 exact Int.eq_of_mul_eq_mul_right (by have := dR_ne (X := P') hY'; omega) k
end Go.Proofs.YtbgelajoomneiaaGreat

/-
 rat.Add, Sub, Floor, Near; the document's Valid; what the laws ask of rationals.
-/
namespace Go.Proofs.YtbgelajoomneiaaGreat
open Go Go.RowKit Nt
set_option linter.unusedSimpArgs false
set_option linter.unusedVariables false
set_option maxRecDepth 20000

set_option maxHeartbeats 400000 in
theorem ratadd_w (w : World) (A N : Int) (D M k1 k2 k3 k4 : Nat) (u v : Value) (h : Rv A (D : Int) k1 k2 u w) (h' : Rv N (M : Int) k3 k4 v w) (hk1 : k1 ≤ 8388608) (hk2 : k2 ≤ 8388608) (hk3 : k3 ≤ 8388608) (hk4 : k4 ≤ 8388608) (hD : D ≠ 0) (hM : M ≠ 0) :
  Calls Tryz.prog 25 #[u, v] w (Gives (TWO (RN (nR (adN A N D M) (D * M)) (dR (adN A N D M) (D * M))) (IS (.int .i64 0))) w) := by
 refine calls_sta (sl := [(0, (PR (Zv A k1) (Zv ((D : Int)) k2))), (1, (PR (Zv N k3) (Zv ((M : Int)) k4)))]) Tryz.func25 rfl Tryz.ntmps25 (by simp) (args_cons rfl (rv_has h) (args_cons rfl (rv_has h') args_nil)) ?_
 intro a0 S0
 refine wq [.new (.box 34 (PR (Zv A k1) (Zv ((D : Int)) k2))), .new (.box 34 (PR (Zv N k3) (Zv ((M : Int)) k4))), .new (.box 34 zR), .val (iV 0)] [.inl 0, .inl 1, .inl 2] [.inl 3] S0 ?_ ?_
 ·apply jj4
  ·exact owe_box rfl wA rfl (oS 0 0) rfl (fun ρ w h => box_rat (shp_pr shp_zv shp_zv) ρ _ _ w h)
  ·exact owe_box rfl wA rfl (oS 1 1) rfl (fun ρ w h => box_rat (shp_pr shp_zv shp_zv) ρ _ _ w h)
  ·exact owe_new rfl wA rfl rfl (fun ρ w => alloc_rat ρ _ w)
  ·exact mC
 intro _ a1 _ (S1 : Sta w 12 [(2, (.box 34 (PR (Zv A k1) (Zv ((D : Int)) k2)))), (3, (.box 34 (PR (Zv N k3) (Zv ((M : Int)) k4)))), (4, (.box 34 zR))] [(5, iV 0)] _ _ _)
 refine wq [.val (PR (Zv A k1) (Zv ((D : Int)) k2)), .val (PR (Zv N k3) (Zv ((M : Int)) k4)), .val (RL2 (PR (Zv A k1) (Zv ((D : Int)) k2)) (PR (Zv N k3) (Zv ((M : Int)) k4)) w.heap.size), .val ((TWO (RN (nR (adN A N D M) (D * M)) (dR (adN A N D M) (D * M))) (IS (.int .i64 0))) w.heap.size), .val ((RN (nR (adN A N D M) (D * M)) (dR (adN A N D M) (D * M))) w.heap.size), .val (iV 0), .put (.inl 4) (.box 34 ((RN (nR (adN A N D M) (D * M)) (dR (adN A N D M) (D * M))) w.heap.size)), .val (iV 0)] [.inr 0, .inr 1, .inr 2] [.inl 7] S1 ?_ ?_
 ·repeat' refine And.intro ?_ ?_
  ·trivial
  ·exact lod 0 wA (loads_of strct_rat (shp_pr shp_zv shp_zv))
  ·exact lod 1 wA (loads_of strct_rat (shp_pr shp_zv shp_zv))
  ·exact owe_rl2 rfl wA rfl (oO 0 6) (oO 1 7) (shp_pr shp_zv shp_zv) (shp_pr shp_zv shp_zv) rfl
  ·exact cc1 wA (qO 2 8 rfl) (fresh_two (fresh_rn _ _) (fresh_is _)) (fun w u h1 => g_sum hD hM (by omega) (by omega) (by omega) (by omega) w u (rl2_imp (pr_imp (fun _ _ h => h) (fun _ _ h => h)) (pr_imp (fun _ _ h => h) (fun _ _ h => h)) _ _ h1))
  ·exact e20 wA (oO 3 9)
  ·exact e21 wA (oO 3 9)
  ·exact owe_set rfl wA rfl (k := 2) rfl (by kernel_rfl) (oO 4 10) (stores_of strct_rat shp_r0 (shp_pr shp_zn shp_zn)) rfl
  ·exact mO 5 11
 intro _ a2 _ (S2 : Sta w 12 [(2, (.box 34 (PR (Zv A k1) (Zv ((D : Int)) k2)))), (3, (.box 34 (PR (Zv N k3) (Zv ((M : Int)) k4)))), (4, (.box 34 ((RN (nR (adN A N D M) (D * M)) (dR (adN A N D M) (D * M))) w.heap.size)))] [(5, iV 0)] _ _ _)
 refine wp_ret ?_
 exact end_two S2 rfl (res_cell S2 2 4 rfl strct_rat (shp_pr shp_zn shp_zn)) (res_tmp S2 0 5 rfl)

theorem g_ratadd {A N : Int} {D M k1 k2 k3 k4 : Nat} (hD : D ≠ 0) (hM : M ≠ 0)  (hk1 : k1 ≤ 8388608) (hk2 : k2 ≤ 8388608) (hk3 : k3 ≤ 8388608) (hk4 : k4 ≤ 8388608) : ∀ w u v, Rv A (D : Int) k1 k2 u w → Rv N (M : Int) k3 k4 v w → Calls Tryz.prog 25 #[u, v] w (Gives (TWO (RN (nR (adN A N D M) (D * M)) (dR (adN A N D M) (D * M))) (IS (.int .i64 0))) w) := fun w u v h h' => ratadd_w w A N D M k1 k2 k3 k4 u v h h' hk1 hk2 hk3 hk4 hD hM

/-- What is said of a fraction and its lowest terms. -/
theorem fr {P : Int} {Y : Nat} {n : Int} {d : Nat} (e1 : nR P Y = n) (e2 : dR P Y = d) : n * (Y : Int) = P * (d : Int) := by rw [← e1, ← e2]; exact nR_mul P Y
end Go.Proofs.YtbgelajoomneiaaGreat
