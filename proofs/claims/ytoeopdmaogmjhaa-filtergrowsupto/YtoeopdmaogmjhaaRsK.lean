import Derived.Test.YtoeopdmaogmjhaaSetQ
import Derived.Test.YtoeopdmaogmjhaaSetP
import Derived.Test.YtoeopdmaogmjhaaSetR
import Derived.Test.YtoeopdmaogmjhaaRsG
import Derived.Test.YtoeopdmaogmjhaaRsD
import Derived.Test.YtoeopdmaogmjhaaRsJ
import Derived.Test.YtoeopdmaogmjhaaRsE
import Derived.Test.YtoeopdmaogmjhaaSetX
import Derived.Test.YtoeopdmaogmjhaaSetE
import Derived.Test.YtoeopdmaogmjhaaSetG
/-
 The document's power of two, in new memory.
-/
namespace Go.Proofs.Ytoeopdmaogmjhaa
open Go Go.RowKit Nt
set_option linter.unusedSimpArgs false
set_option linter.unusedVariables false
set_option maxRecDepth 20000

theorem Gives.two {φ φ' ψ : Nat → Pr} {w : World} {f : FuncId} {args : Array Value} (h : Calls Try.prog f args w (Gives (TWO φ ψ) w)) (k : ∀ v w', φ w.heap.size v w' → φ' w.heap.size v w') : Calls Try.prog f args w (Gives (TWO φ' ψ) w) := by
 refine h.mono ?_
 rintro e w' ⟨v, rfl, hb, x, y, rfl, h1, h2⟩
 exact ⟨_, rfl, hb, x, y, rfl, k _ _ h1, h2⟩
theorem zero_zn {lo : Nat} : ∀ v w, IS (.agg #[.bool false, .slice none 0 0]) lo v w → ZN 0 lo v w := fun v w e => ⟨none, 0, e, Sl.none w, fun b o h => nomatch h⟩
end Go.Proofs.Ytoeopdmaogmjhaa

/-
 Rationals in the logic of statements: what is said of them, the machine's way with their boxes, lists of one and two.
-/
namespace Go.Proofs.Ytoeopdmaogmjhaa
open Go Go.RowKit Nt
set_option linter.unusedSimpArgs false
set_option linter.unusedVariables false
set_option maxRecDepth 20000

/-- A struct of two numbers. -/
def PR (φ ψ : Pr) : Pr := fun v w => ∃ x0 x1 y0 y1, v = .agg #[x0, x1, y0, y1] ∧ φ (.agg #[x0, x1]) w ∧ ψ (.agg #[y0, y1]) w
def PRF (φ ψ : Nat → Pr) : Nat → Pr := fun lo => PR (φ lo) (ψ lo)
/-- A rational in one form, in new memory. -/
def RN (N : Int) (D : Nat) : Nat → Pr := PRF (ZN N) (ZN (D : Int))
theorem fresh_prf {φ ψ : Nat → Pr} (h : Fresh φ) (h' : Fresh ψ) : Fresh (PRF φ ψ) :=
 ⟨fun lo lo' v w hl ⟨x0, x1, y0, y1, e, a, b⟩ => ⟨x0, x1, y0, y1, e, h.mono _ _ _ _ hl a, h'.mono _ _ _ _ hl b⟩, fun lo v w w' B hB ⟨x0, x1, y0, y1, e, a, b⟩ ev => ⟨x0, x1, y0, y1, e, h.ev _ _ _ _ B hB a ev, h'.ev _ _ _ _ B hB b ev⟩⟩
theorem fresh_rn (N : Int) (D : Nat) : Fresh (RN N D) := fresh_prf (fresh_zn _) (fresh_zn _)
theorem pr_imp {φ ψ φ' ψ' : Pr} (h : ∀ v w, φ v w → φ' v w) (h' : ∀ v w, ψ v w → ψ' v w) : ∀ v w, PR φ ψ v w → PR φ' ψ' v w :=
 fun v w ⟨x0, x1, y0, y1, e, a, b⟩ => ⟨x0, x1, y0, y1, e, h _ _ a, h' _ _ b⟩
theorem zv_has {A : Int} {k : Nat} {u : Value} {w : World} (h : Zv A k u w) : Has (fun _ => False) w (Zv A k) u := fun w' e => by
 obtain ⟨s, p, n, c, xs, rfl, hs, hA, hn⟩ := h
 exact ⟨s, p, n, c, xs, rfl, sl_ev hs (fun _ _ _ _ h => h) e, hA, hn⟩
theorem pr_has {φ ψ : Pr} {u : Value} {w : World} (h : PR φ ψ u w) (h1 : ∀ v, φ v w → Has (fun _ => False) w φ v) (h2 : ∀ v, ψ v w → Has (fun _ => False) w ψ v) : Has (fun _ => False) w (PR φ ψ) u := fun w' e => by
 obtain ⟨x0, x1, y0, y1, rfl, a, b⟩ := h
 exact ⟨x0, x1, y0, y1, rfl, h1 _ a w' e, h2 _ b w' e⟩
/-- A rational by its worth: numerator, denominator, each of at most so many limbs. -/
abbrev Rv (A : Int) (D : Int) (k k' : Nat) : Pr := PR (Zv A k) (Zv D k')
theorem rv_has {A D : Int} {k k' : Nat} {u : Value} {w : World} (h : Rv A D k k' u w) : Has (fun _ => False) w (Rv A D k k') u := pr_has h (fun _ => zv_has) (fun _ => zv_has)
theorem rn_rv {N : Int} {D lo k k' : Nat} (h : (digs N.natAbs).length ≤ k) (h' : (digs D).length ≤ k') : ∀ v w, RN N D lo v w → Rv N (D : Int) k k' v w :=
 pr_imp (zn_zv h) (zn_zv (by rw [Int.natAbs_natCast]; exact h'))
theorem zv_mono {A : Int} {k k' : Nat} (hk : k ≤ k') : ∀ v w, Zv A k v w → Zv A k' v w := fun v w ⟨s, p, n, c, xs, e, h, hA, hn⟩ => ⟨s, p, n, c, xs, e, h, hA, Nat.le_trans hn hk⟩
theorem zero_zv : ∀ v w, Is (.agg #[.bool false, .slice none 0 0]) v w → Zv 0 0 v w := fun v w e => ⟨false, none, 0, 0, [], e, Sl.none w, rfl, Nat.le_refl _⟩

/-! Boxes. -/
theorem pair_cells {x0 x1 : Value} {φ : Pr} {w : World} (h : Shp 2 φ) (hφ : φ (.agg #[x0, x1]) w) : x0.oneCell' = true ∧ x1.oneCell' = true := by
 obtain ⟨cs, e, _, h1⟩ := h _ w hφ
 simp only [Value.agg.injEq] at e
 subst e
 simpa using h1
theorem shp_pr {φ ψ : Pr} (h : Shp 2 φ) (h' : Shp 2 ψ) : Shp 4 (PR φ ψ) := fun u w ⟨x0, x1, y0, y1, e, a, b⟩ => by
 have h1 := pair_cells h a
 have h2 := pair_cells h' b
 exact ⟨_, e, rfl, by simp [h1, h2]⟩
theorem shp_r0 : Shp 4 zR := fun u w e => ⟨_, e, rfl, by simp [Value.oneCell']⟩
theorem strct_rat : Strct 32 4 := ⟨⟨_, Try.underlying32, rfl⟩, by kernel_rfl⟩
theorem quad_cases {φ : Pr} (h : Shp 4 φ) {u : Value} {w : World} (hφ : φ u w) : ∃ x y z v, u = .agg #[x, y, z, v] := by
 obtain ⟨cs, rfl, hn, _⟩ := h u w hφ
 obtain ⟨l⟩ := cs
 match l, hn with
 | [x, y, z, v], _ => exact ⟨x, y, z, v, rfl⟩
theorem alloc_rat (ρ : Operand → Value) (o : Oper) (w : World) : (execOp ρ { o with op := .alloc 32 }).run Try.prog w = .ok (.value (.pointer (some ⟨w.heap.size, 0, none⟩))) (w.alloc (.cells (Value.agg #[.bool false, .slice none 0 0, .bool false, .slice none 0 0]).cells 32 (0, 0))) := by
  unfold execOp
  go_simp
theorem box_rat {φ : Pr} (h : Shp 4 φ) (ρ : Operand → Value) (o : Oper) (x : Operand) (w : World) (hφ : φ (ρ x) w) : (execOp ρ { o with op := .box 32 x }).run Try.prog w = .ok (.value (.pointer (some ⟨w.heap.size, 0, none⟩))) (w.alloc (.cells (ρ x).cells 32 (0, 0))) := by
  obtain ⟨y, z, u, v, e⟩ := quad_cases h hφ
  clear hφ h
  rw [e]
  unfold execOp
  go_simp
theorem part_rat0 (ρ : Operand → Value) (o : Oper) (x : Operand) (w : World) (b f : Nat) (h : ρ x = .pointer (some ⟨b, f, none⟩)) : (execOp ρ { o with op := .fieldAddr 32 x 0 }).run Try.prog w = .ok (.value (.pointer (some ⟨b, f, none⟩))) w := by
  unfold execOp
  go_simp
theorem part_rat1 (ρ : Operand → Value) (o : Oper) (x : Operand) (w : World) (b f : Nat) (h : ρ x = .pointer (some ⟨b, f, none⟩)) : (execOp ρ { o with op := .fieldAddr 32 x 1 }).run Try.prog w = .ok (.value (.pointer (some ⟨b, f + 2, none⟩))) w := by
  unfold execOp
  go_simp
/-- A number that lies in the midst of a block. -/
theorem load_mid {ρ : Operand → Value} {o : Oper} {x : Operand} {w : World} {b off : Nat} {x0 x1 : Value} (hx : ρ x = .pointer (some ⟨b, off, none⟩)) (h0 : w.cell? ⟨b, off, none⟩ = some x0) (h1 : w.cell? ⟨b, off + 1, none⟩ = some x1) :
  (execOp ρ { o with op := .load 29 x }).run Try.prog w = .ok (.value (.agg #[x0, x1])) w := by
 obtain ⟨⟨d, hu, hd⟩, hi⟩ := strct_int
 unfold execOp
 simp only [hx, Sem.run_bind, run_loadAt_mid (P := Try.prog) w b off 29 [x0, x1] d (fun j v hv => by
  match j, hv with
  | 0, hv => simp only [List.getElem?_cons_zero, Option.some.injEq] at hv; subst hv; exact h0
  | 1, hv => simp only [List.getElem?_cons_succ, List.getElem?_cons_zero, Option.some.injEq] at hv; subst hv; exact h1
  | j + 2, hv => simp at hv) hu hd (by rw [hi]; rfl), Result.andThen_ok, Sem.run_pure]
theorem cell_of {w : World} {b i : Nat} {cs : Array Value} {T : TypeId} (h : w.heap[b]? = some (.cells cs T (0, 0))) : w.cell? ⟨b, i, none⟩ = cs[i]? := by simp [World.cell?, h]
theorem pload_num {φ ψ : Pr} (ρ : Operand → Value) (o : Oper) (x : Operand) (w : World) (b : Nat) (u : Value) (hφ : PR φ ψ u w) (hx : ρ x = .pointer (some ⟨b, 0, none⟩)) (hb : w.heap[b]? = some (.cells u.cells 32 (0, 0))) :
  ∃ v, (execOp ρ { o with op := .load 29 x }).run Try.prog w = .ok (.value v) w ∧ ∀ w', PR φ ψ u w' → φ v w' := by
 obtain ⟨x0, x1, y0, y1, rfl, a, b'⟩ := hφ
 refine ⟨.agg #[x0, x1], load_mid hx ((cell_of hb).trans rfl) ((cell_of hb).trans rfl), fun w' h' => ?_⟩
 obtain ⟨a0, a1, b0, b1, e, ha, _⟩ := h'
 simp at e
 rw [e.1, e.2.1]
 exact ha
theorem pload_den {φ ψ : Pr} (ρ : Operand → Value) (o : Oper) (x : Operand) (w : World) (b : Nat) (u : Value) (hφ : PR φ ψ u w) (hx : ρ x = .pointer (some ⟨b, 2, none⟩)) (hb : w.heap[b]? = some (.cells u.cells 32 (0, 0))) :
  ∃ v, (execOp ρ { o with op := .load 29 x }).run Try.prog w = .ok (.value v) w ∧ ∀ w', PR φ ψ u w' → ψ v w' := by
 obtain ⟨x0, x1, y0, y1, rfl, a, b'⟩ := hφ
 refine ⟨.agg #[y0, y1], load_mid hx ((cell_of hb).trans rfl) ((cell_of hb).trans rfl), fun w' h' => ?_⟩
 obtain ⟨a0, a1, b0, b1, e, _, ha⟩ := h'
 simp at e
 rw [e.2.2.1, e.2.2.2]
 exact ha

section
variable {ops : Array Oper} {l : List Kd} {bx : Bxs} {sl : List (Tmp × Pr)} {i : Nat} {o : Oper} {Q : Exit → Act → World → Prop} {a0 : Act} {n : Nat} {w0 : World}
/-- A rational made of two numbers. -/
theorem owe_build2 {x y : Operand} {φ ψ : Pr} (ho : ops[i]? = some o) (hw : Wants ops l bx sl i o) (hop : o.op = .build 32 #[(0, x), (1, y)]) (hx : Opnd ops l bx sl i x φ) (hy : Opnd ops l bx sl i y ψ) (hφ : Shp 2 φ) (hψ : Shp 2 ψ) (hk : kdAt l i = .val (PR φ ψ)) : Owed Try.prog ops Q l bx sl a0 n w0 i :=
  owe_val ho hw hk fun vs B a w c => by
    have h1 := hx a0 n w0 vs B a w c
    have h2 := hy a0 n w0 vs B a w c
    obtain ⟨x0, x1, e1⟩ := pair_cases hφ h1.now
    obtain ⟨y0, y1, e2⟩ := pair_cases hψ h2.now
    refine ⟨.agg #[x0, x1, y0, y1], ?_, fun w' e' => ⟨x0, x1, y0, y1, rfl, e1 ▸ h1 w' e', e2 ▸ h2 w' e'⟩⟩
    unfold execOp
    rw [hop]
    clear h1 h2 hx hy
    generalize a.eval = ρ at e1 e2
    go_simp
theorem owe_build_rat (ho : ops[i]? = some o) (hw : Wants ops l bx sl i o) (hop : o.op = .build 32 #[]) (hk : kdAt l i = .val zR) : Owed Try.prog ops Q l bx sl a0 n w0 i :=
  owe_is ho hw hk fun vs B a w c => by
    unfold execOp
    rw [hop]
    generalize a.eval = ρ
    go_simp
/-- One rational, two rationals in a block of their own. -/
def RL1 (φ : Pr) (lo : Nat) : Pr := fun v w => ∃ g x0 x1 y0 y1, v = .slice (some ⟨g, 0, none⟩) 1 1 ∧ lo ≤ g ∧ w.heap[g]? = some (.cells #[x0, x1, y0, y1] 32 (0, 0)) ∧ φ (.agg #[x0, x1, y0, y1]) w
theorem owe_rl1 {x : Operand} {φ : Pr} (ho : ops[i]? = some o) (hw : Wants ops l bx sl i o) (hop : o.op = .buildSlice 26 1 #[(0, x)]) (hx : Opnd ops l bx sl i x φ) (hφ : Shp 4 φ) (hk : kdAt l i = .val (RL1 φ w0.heap.size)) : Owed Try.prog ops Q l bx sl a0 n w0 i :=
  owe_grow ho hw hk fun vs B a w c => by
    have h1 := hx a0 n w0 vs B a w c
    obtain ⟨x0, x1, y0, y1, e1⟩ := quad_cases hφ h1.now
    have hb : Below w.heap.size w (w.alloc (.cells #[x0, x1, y0, y1] 32)) := (Below.refl _ _).alloc (Nat.le_refl _) _
    refine ⟨.slice (some ⟨w.heap.size, 0, none⟩) 1 1, w.alloc (.cells #[x0, x1, y0, y1] 32), ?_, hb, fun w' e' => ⟨w.heap.size, x0, x1, y0, y1, rfl, c.lo, ?_, ?_⟩⟩
    · unfold execOp
      rw [hop]
      clear h1 hx
      generalize a.eval = ρ at e1
      go_simp
    · exact (e'.block w.heap.size (by simp) (fun hB => by have := (c.bnd _ hB).2; omega)).trans (heap_alloc_last _ _)
    · rw [← e1]
      exact h1 w' ((Ev.of_below hb).back (fun _ _ h => h) e')
end
end Go.Proofs.Ytoeopdmaogmjhaa

/-
 The calls of rat, of the document's rationals and of their laws, in the form that the logic of statements takes.
-/
namespace Go.Proofs.Ytoeopdmaogmjhaa
open Go Go.RowKit Nt
set_option linter.unusedSimpArgs false
set_option linter.unusedVariables false
set_option maxRecDepth 20000

theorem zv_pos {t : Bool} {ys : List Nat} {D : Nat} (e : sg t (val ys) = (D : Int)) (hD : D ≠ 0) : t = false ∧ val ys = D := by
 cases t
 ·simp only [sg, Bool.false_eq_true, if_false] at e
  exact ⟨rfl, by omega⟩
 ·simp only [sg, if_true] at e
  omega
theorem rt_gives {w : World} {A : Int} {D k k' f : Nat} {args : Array Value} (h : Calls Try.prog f args w (Rt w A D k k')) : Calls Try.prog f args w (Gives (RN A D) w) := by
 refine h.mono ?_
 rintro e w' ⟨b1, L1, D1, r1, k1, L2, r2, k2, rfl, hb, s1, s2, hN, hL1, hL2, f1, f2⟩
 have hl := s2.out.len
 refine ⟨_, rfl, hb, _, _, _, _, rfl, nm_zn hN.out s1.out f1.out, nm_zn ⟨?_, ?_, ?_⟩ s2.out f2.out⟩
 ·unfold ng; simp
 ·rw [Int.natAbs_natCast]
 ·exact hl
theorem rte_gives {w : World} {A : Int} {D k k' f : Nat} {args : Array Value} (h : Calls Try.prog f args w (RtE w A D k k')) : Calls Try.prog f args w (Gives (TWO (RN A D) (IS (.int .i64 0))) w) := by
 refine h.mono ?_
 rintro e w' ⟨b1, L1, D1, r1, k1, L2, r2, k2, rfl, hb, s1, s2, hN, hL1, hL2, f1, f2⟩
 have hl := s2.len
 refine ⟨_, rfl, hb, _, _, rfl, ⟨_, _, _, _, rfl, nm_zn hN s1 f1.out, nm_zn ⟨?_, ?_, ?_⟩ s2 f2.out⟩, rfl⟩
 ·unfold ng; simp
 ·rw [Int.natAbs_natCast]
 ·exact hl

/-! zint. -/
theorem g_zneg {A : Int} {k : Nat} (hk : k ≤ 70368744177664) : ∀ w u, Zv A k u w → Calls Try.prog 37 #[u] w (Gives (ZN (-A)) w) := by
 rintro w u ⟨s, p, n, c, xs, rfl, h, rfl, hn⟩
 refine (zneg_c w s p n c xs h (by omega)).mono ?_
 rintro e w' ⟨r, cr, rfl, Z⟩
 exact za_gives Z
theorem g_zform {A : Int} {k : Nat} (hk : k ≤ 70368744177664) : ∀ w u, Zv A k u w → Calls Try.prog 30 #[u] w (Gives (ZN A) w) := by
 rintro w u ⟨s, p, n, c, xs, rfl, h, rfl, hn⟩
 refine (zform_c w s p n c xs h (by omega)).mono ?_
 rintro e w' ⟨r, cr, rfl, Z⟩
 exact za_gives Z
theorem g_zsgn {A : Int} {k : Nat} (hk : k ≤ 70368744177664) : ∀ w u, Zv A k u w → Calls Try.prog 27 #[u] w (Gives (IS (.int .i64 A.sign)) w) := by
 rintro w u ⟨s, p, n, c, xs, rfl, h, rfl, hn⟩
 refine (zsign_c w s p n c xs h (by omega)).mono ?_
 rintro e w' ⟨rfl, hb⟩
 exact ⟨_, rfl, hb, rfl⟩

theorem g_ratmake {A : Int} {D k k' : Nat} (hD : D ≠ 0) (hk : k ≤ 67108864) (hk' : k' ≤ 67108864) : ∀ w u v, Zv A k u w → Zv (D : Int) k' v w → Calls Try.prog 20 #[u, v] w (Gives (TWO (RN (nR A D) (dR A D)) (IS (.int .i64 0))) w) := by
 rintro w u v ⟨s, p, n, c, xs, rfl, h, rfl, hn⟩ ⟨t, q, m, d, ys, rfl, h', eD, hm⟩
 obtain ⟨rfl, rfl⟩ := zv_pos eD hD
 rw [nR_sg, dR_sg]
 exact rte_gives (ratmake_pos w s p q n c m d xs ys h h' hD (by omega) (by omega))
theorem g_ratof {A : Int} {k : Nat} (hk : k ≤ 67108864) : ∀ w u, Zv A k u w → Calls Try.prog 53 #[u] w (Gives (RN A 1) w) := by
 rintro w u ⟨s, p, n, c, xs, rfl, h, rfl, hn⟩
 exact rt_gives (ratof_c w s p n c xs h (by omega))
theorem g_maybe1 {A D : Int} {k k' lo : Nat} (hk : k' ≤ 67108864) : ∀ w u, RL1 (Rv A D k k') lo u w → Calls Try.prog 22 #[u] w (Gives (IS (.bool (decide (0 < D.sign)))) w) := by
 rintro w u ⟨g, x0, x1, y0, y1, rfl, _, hg, a0, a1, b0, b1, e, ⟨s, p, n, c, xs, ea, h, rfl, hn⟩, ⟨t, q, m, d, ys, eb, h', rfl, hm⟩⟩
 simp at e ea eb
 obtain ⟨rfl, rfl, rfl, rfl⟩ := e
 obtain ⟨rfl, rfl⟩ := ea
 obtain ⟨rfl, rfl⟩ := eb
 refine (mayBe1 w g s p n c t q m d ys hg h' (by omega) _ rfl).mono ?_
 rintro e w' ⟨rfl, hb⟩
 exact ⟨_, rfl, hb, rfl⟩
theorem rl1_imp {φ φ' : Pr} {lo : Nat} (h : ∀ v w, φ v w → φ' v w) : ∀ v w, RL1 φ lo v w → RL1 φ' lo v w := fun v w ⟨g, x0, x1, y0, y1, e, hl, hg, a⟩ => ⟨g, x0, x1, y0, y1, e, hl, hg, h _ _ a⟩
theorem g_ratcmp {A N : Int} {D M k1 k2 k3 k4 : Nat} (hD : D ≠ 0) (hM : M ≠ 0) (b1 : k1 ≤ 8388608) (b2 : k2 ≤ 8388608) (b3 : k3 ≤ 8388608) (b4 : k4 ≤ 8388608) : ∀ w u v, Rv A (D : Int) k1 k2 u w → Rv N (M : Int) k3 k4 v w → Calls Try.prog 9 #[u, v] w (Gives (TWO (IS (.int .i64 (A * (M : Int) - N * (D : Int)).sign)) (IS (.int .i64 0))) w) := by
 rintro w u v ⟨x0, x1, y0, y1, rfl, ⟨s, p, n, c, xs, ea, h, rfl, hn⟩, ⟨t, q, m, d, ys, eb, h', eD, hm⟩⟩ ⟨z0, z1, u0, u1, rfl, ⟨s', p', n', c', xs', ea', h2, rfl, hn'⟩, ⟨t', q', m', d', ys', eb', h2', eM, hm'⟩⟩
 simp at ea eb ea' eb'
 obtain ⟨rfl, rfl⟩ := ea
 obtain ⟨rfl, rfl⟩ := eb
 obtain ⟨rfl, rfl⟩ := ea'
 obtain ⟨rfl, rfl⟩ := eb'
 obtain ⟨rfl, rfl⟩ := zv_pos eD hD
 obtain ⟨rfl, rfl⟩ := zv_pos eM hM
 refine (ratcmp_ok w s p n c xs q m d s' p' n' c' xs' q' m' d' ys ys' h h2 h' h2' hD hM (by omega) (by omega) (by omega) (by omega)).mono ?_
 rintro e w' ⟨rfl, hb⟩
 exact ⟨_, rfl, hb, _, _, rfl, rfl, rfl⟩

end Go.Proofs.Ytoeopdmaogmjhaa

/-
 rat.fold hands the one rational of a list to a closure; rules for rat.sum and rat.minus.
-/
namespace Go.Proofs.Ytoeopdmaogmjhaa
open Go Go.RowKit Nt
set_option linter.unusedSimpArgs false
set_option linter.unusedVariables false
set_option maxRecDepth 20000

end Go.Proofs.Ytoeopdmaogmjhaa

/-
 rat.sum with its closure, rat.minus, rat.Add, rat.Sub.
-/
namespace Go.Proofs.Ytoeopdmaogmjhaa
open Go Go.RowKit Nt
set_option linter.unusedSimpArgs false
set_option linter.unusedVariables false
set_option maxRecDepth 20000


section
variable {ops : Array Oper} {l : List Kd} {bx : Bxs} {sl : List (Tmp × Pr)} {i : Nat} {o : Oper} {Q : Exit → Act → World → Prop} {a0 : Act} {n : Nat} {w0 : World}
end
theorem pos_sign {D : Nat} (h : D ≠ 0) : (D : Int).sign = 1 := Int.sign_eq_one_of_pos (by omega)
end Go.Proofs.Ytoeopdmaogmjhaa

/-
 Rationals in lowest terms: one form for each, how long it is, what sums, products and quotients make.
-/
namespace Go.Proofs.Ytoeopdmaogmjhaa
open Go Go.RowKit Nt
set_option linter.unusedSimpArgs false
set_option linter.unusedVariables false
set_option maxRecDepth 20000

theorem nR_mul (P : Int) (Y : Nat) : nR P Y * (Y : Int) = P * (dR P Y : Int) := by
 have h1 := g_nR P Y
 have h2 := g_dR P Y
 have h3 : ((Nat.gcd P.natAbs Y : Nat) : Int) * (dR P Y : Int) = (Y : Int) := by rw [← Int.natCast_mul, h2]
 generalize ((Nat.gcd P.natAbs Y : Nat) : Int) = G at h1 h3
 grind
theorem nR_abs (P : Int) (Y : Nat) : (nR P Y).natAbs = P.natAbs / Nat.gcd P.natAbs Y := by unfold nR; rw [sg_abs]
theorem nR_len {P : Int} {Y k : Nat} (h : (digs P.natAbs).length ≤ k) : (digs (nR P Y).natAbs).length ≤ k := by
 rw [nR_abs]
 exact Nat.le_trans (digs_length_mono (Nat.div_le_self _ _)) h
theorem dR_len {P : Int} {Y k : Nat} (h : (digs Y).length ≤ k) : (digs (dR P Y)).length ≤ k := by
 unfold dR
 exact Nat.le_trans (digs_length_mono (Nat.div_le_self _ _)) h
end Go.Proofs.Ytoeopdmaogmjhaa

/-
 rat.Add, Sub, Floor, Near; the document's Valid; what the laws ask of rationals.
-/
namespace Go.Proofs.Ytoeopdmaogmjhaa
open Go Go.RowKit Nt
set_option linter.unusedSimpArgs false
set_option linter.unusedVariables false
set_option maxRecDepth 20000

set_option maxHeartbeats 400000 in
theorem ratnear_w (w : World) (A : Int) (D k1 k2 : Nat) (u : Value) (h : Rv A (D : Int) k1 k2 u w) (hk1 : k1 ≤ 8388608) (hk2 : k2 ≤ 8388608) (hB : (D : Int) ≠ 0) (hmt : decide (0 < (D : Int).sign) = true) :
  Calls Try.prog 7 #[u] w (Gives (TWO (ZN (nr A (D : Int))) (IS (.int .i64 0))) w) := by
 refine calls_sta (sl := [(0, (PR (Zv A k1) (Zv ((D : Int)) k2)))]) Try.func7 rfl Try.ntmps7 (by simp) (args_cons rfl (rv_has h) args_nil) ?_
 intro a0 S0
 refine wq [.new (.box 32 (PR (Zv A k1) (Zv ((D : Int)) k2))), .new (.box 29 zI), .val (iV 0)] [.inl 0, .inl 1] [.inl 2] S0 ?_ ?_
 ·apply jj3
  ·exact owe_box rfl wA rfl (oS 0 0) rfl (fun ρ w h => box_rat (shp_pr shp_zv shp_zv) ρ _ _ w h)
  ·exact owe_new rfl wA rfl rfl (fun ρ w => alloc_int ρ _ w)
  ·exact mC
 intro _ a1 _ (S1 : Sta w 16 [(1, (.box 32 (PR (Zv A k1) (Zv ((D : Int)) k2)))), (2, (.box 29 zI))] [(3, iV 0)] _ _ _)
 refine wp_seq ?_
 refine wq [.val (PR (Zv A k1) (Zv ((D : Int)) k2)), .val (RL1 (PR (Zv A k1) (Zv ((D : Int)) k2)) w.heap.size), kT, kF] [.inr 0, .inr 1] [.inl 3, .inr 0] S1 ?_ ?_
 ·apply jj4
  ·exact lod 0 wA (loads_of strct_rat (shp_pr shp_zv shp_zv))
  ·exact owe_rl1 rfl wA rfl (oO 0 4) (shp_pr shp_zv shp_zv) rfl
  ·exact cc1 wA (qO 1 5 rfl) (fresh_is _) (fun w u h1 => Gives.cast (g_maybe1 (by omega) w u (rl1_imp (pr_imp (fun _ _ h => h) (fun _ _ h => h)) _ _ h1)) (by rw [hmt]))
  ·exact b_not wA (oO 2 6)
 intro _ a2 _ (S2 : Sta w 16 [(1, (.box 32 (PR (Zv A k1) (Zv ((D : Int)) k2)))), (2, (.box 29 zI))] [(7, bF), (3, iV 0)] _ _ _)
 refine wp_cond_false (S2.bool 0 7 rfl) (wp_skip (thenN ?_))
 refine wq [.val (Part a2 1 0), .val (Zv A k1), .val (Part a2 1 2), .val (Zv ((D : Int)) k2), .val ((TWO (ZN (nr A ((D : Int)))) (IS (.int .i64 0))) w.heap.size), .val ((ZN (nr A ((D : Int)))) w.heap.size), .val (iV 0), .put (.inl 2) (.box 29 ((ZN (nr A ((D : Int)))) w.heap.size)), .val (iV 0)] [.inr 0, .inr 1] [.inl 8, .inr 0] S2 ?_ ?_
 ·repeat' refine And.intro ?_ ?_
  ·trivial
  ·exact owe_part rfl wA rfl (k := 0) rfl (by kernel_rfl) rfl (fun ρ w b h => part_rat0 ρ _ _ w b 0 h)
  ·exact owe_pload rfl wA rfl (oO 0 9) (k := 0) rfl (by kernel_rfl) rfl (fun ρ w b u h1 h2 h3 => pload_num ρ _ _ w b u h1 h2 h3)
  ·exact owe_part rfl wA rfl (k := 0) rfl (by kernel_rfl) rfl (fun ρ w b h => part_rat1 ρ _ _ w b 0 h)
  ·exact owe_pload rfl wA rfl (oO 2 11) (k := 0) rfl (by kernel_rfl) rfl (fun ρ w b u h1 h2 h3 => pload_den ρ _ _ w b u h1 h2 h3)
  ·exact cc2 wA (qO 1 10 rfl) (qO 3 12 rfl) (fresh_two (fresh_zn _) (fresh_is _)) (fun w u v h1 h2 => g_znear hB (by omega) w u v ((fun _ _ h => h) _ _ h1) ((fun _ _ h => h) _ _ h2))
  ·exact e20 wA (oO 4 13)
  ·exact e21 wA (oO 4 13)
  ·exact owe_set rfl wA rfl (k := 1) rfl (by kernel_rfl) (oO 5 14) (stores_of strct_int shp_z0 shp_zn) rfl
  ·exact mO 6 15
 intro _ a3 _ (S3 : Sta w 16 [(1, (.box 32 (PR (Zv A k1) (Zv ((D : Int)) k2)))), (2, (.box 29 ((ZN (nr A ((D : Int)))) w.heap.size)))] [(3, iV 0), (7, bF)] _ _ _)
 refine wp_ret ?_
 exact end_two S3 rfl (res_cell S3 1 2 rfl strct_int shp_zn) (res_tmp S3 0 3 rfl)

theorem g_ratnear {A : Int} {D k1 k2 : Nat} (hD : D ≠ 0) (hk1 : k1 ≤ 8388608) (hk2 : k2 ≤ 8388608) : ∀ w u, Rv A (D : Int) k1 k2 u w → Calls Try.prog 7 #[u] w (Gives (TWO (ZN (nr A (D : Int))) (IS (.int .i64 0))) w) := fun w u h => ratnear_w w A D k1 k2 u h hk1 hk2 (by omega) (by rw [pos_sign hD]; rfl)

/-- What is said of a fraction and its lowest terms. -/
theorem fr {P : Int} {Y : Nat} {n : Int} {d : Nat} (e1 : nR P Y = n) (e2 : dR P Y = d) : n * (Y : Int) = P * (d : Int) := by rw [← e1, ← e2]; exact nR_mul P Y
end Go.Proofs.Ytoeopdmaogmjhaa
