import Derived.Test.YtgalppimdmjdcaaGreatSetY
import Derived.Test.YtgalppimdmjdcaaGreatSetN
import Derived.Test.YtgalppimdmjdcaaGreatSetG
import Derived.Test.YtgalppimdmjdcaaGreatROf
import Derived.Test.YtgalppimdmjdcaaGreatRHalf
import Derived.Test.YtgalppimdmjdcaaGreatSetH
import Derived.Test.YtgalppimdmjdcaaGreatSetX
import Derived.Test.YtgalppimdmjdcaaGreatSetE
import Derived.Test.YtgalppimdmjdcaaGreatSetF
/-
  The calls of rat, of the document's rationals and of their laws, in the form that the logic of statements takes.
-/
namespace Go.Proofs.YtgalppimdmjdcaaGreat
open Go Go.RowKit Nt
set_option linter.unusedSimpArgs false
set_option linter.unusedVariables false
set_option maxRecDepth 20000

theorem zv_pos {t : Bool} {ys : List Nat} {D : Nat} (e : sg t (val ys) = (D : Int)) (hD : D ≠ 0) : t = false ∧ val ys = D := by
  cases t
  · simp only [sg, Bool.false_eq_true, if_false] at e
    exact ⟨rfl, by omega⟩
  · simp only [sg, if_true] at e
    omega
theorem rt_gives {w : World} {A : Int} {D k k' f : Nat} {args : Array Value} (h : Calls Tryz.prog f args w (Rt w A D k k')) : Calls Tryz.prog f args w (Gives (RN A D) w) := by
  refine h.mono ?_
  rintro e w' ⟨b1, L1, D1, r1, k1, L2, r2, k2, rfl, hb, s1, s2, hN, hL1, hL2, f1, f2⟩
  have hl := s2.out.len
  refine ⟨_, rfl, hb, _, _, _, _, rfl, nm_zn hN.out s1.out f1.out, nm_zn ⟨?_, ?_, ?_⟩ s2.out f2.out⟩
  · unfold ng; simp
  · rw [Int.natAbs_natCast]
  · exact hl
theorem rte_gives {w : World} {A : Int} {D k k' f : Nat} {args : Array Value} (h : Calls Tryz.prog f args w (RtE w A D k k')) : Calls Tryz.prog f args w (Gives (TWO (RN A D) (IS (.int .i64 0))) w) := by
  refine h.mono ?_
  rintro e w' ⟨b1, L1, D1, r1, k1, L2, r2, k2, rfl, hb, s1, s2, hN, hL1, hL2, f1, f2⟩
  have hl := s2.len
  refine ⟨_, rfl, hb, _, _, rfl, ⟨_, _, _, _, rfl, nm_zn hN s1 f1.out, nm_zn ⟨?_, ?_, ?_⟩ s2 f2.out⟩, rfl⟩
  · unfold ng; simp
  · rw [Int.natAbs_natCast]
  · exact hl

/-! zint. -/
theorem g_zneg {A : Int} {k : Nat} (hk : k ≤ 70368744177664) : ∀ w u, Zv A k u w → Calls Tryz.prog 73 #[u] w (Gives (ZN (-A)) w) := by
  rintro w u ⟨s, p, n, c, xs, rfl, h, rfl, hn⟩
  refine (zneg_c w s p n c xs h (by omega)).mono ?_
  rintro e w' ⟨r, cr, rfl, Z⟩
  exact za_gives Z
theorem g_zform {A : Int} {k : Nat} (hk : k ≤ 70368744177664) : ∀ w u, Zv A k u w → Calls Tryz.prog 63 #[u] w (Gives (ZN A) w) := by
  rintro w u ⟨s, p, n, c, xs, rfl, h, rfl, hn⟩
  refine (zform_c w s p n c xs h (by omega)).mono ?_
  rintro e w' ⟨r, cr, rfl, Z⟩
  exact za_gives Z
theorem g_zsgn {A : Int} {k : Nat} (hk : k ≤ 70368744177664) : ∀ w u, Zv A k u w → Calls Tryz.prog 70 #[u] w (Gives (IS (.int .i64 A.sign)) w) := by
  rintro w u ⟨s, p, n, c, xs, rfl, h, rfl, hn⟩
  refine (zsign_c w s p n c xs h (by omega)).mono ?_
  rintro e w' ⟨rfl, hb⟩
  exact ⟨_, rfl, hb, rfl⟩

/-! rat. -/
theorem g_lowest {A : Int} {D k k' : Nat} (hD : D ≠ 0) (hk : k ≤ 67108864) (hk' : k' ≤ 67108864) : ∀ w u v, Zv A k u w → Zv (D : Int) k' v w → Calls Tryz.prog 74 #[u, v] w (Gives (RN (nR A D) (dR A D)) w) := by
  rintro w u v ⟨s, p, n, c, xs, rfl, h, rfl, hn⟩ ⟨t, q, m, d, ys, rfl, h', eD, hm⟩
  obtain ⟨rfl, rfl⟩ := zv_pos eD hD
  rw [nR_sg, dR_sg]
  exact rt_gives (lowest_c w s p q n c m d xs ys h h' hD (by omega) (by omega))
theorem g_ratmake {A : Int} {D k k' : Nat} (hD : D ≠ 0) (hk : k ≤ 67108864) (hk' : k' ≤ 67108864) : ∀ w u v, Zv A k u w → Zv (D : Int) k' v w → Calls Tryz.prog 40 #[u, v] w (Gives (TWO (RN (nR A D) (dR A D)) (IS (.int .i64 0))) w) := by
  rintro w u v ⟨s, p, n, c, xs, rfl, h, rfl, hn⟩ ⟨t, q, m, d, ys, rfl, h', eD, hm⟩
  obtain ⟨rfl, rfl⟩ := zv_pos eD hD
  rw [nR_sg, dR_sg]
  exact rte_gives (ratmake_pos w s p q n c m d xs ys h h' hD (by omega) (by omega))
theorem g_ratof {A : Int} {k : Nat} (hk : k ≤ 67108864) : ∀ w u, Zv A k u w → Calls Tryz.prog 35 #[u] w (Gives (RN A 1) w) := by
  rintro w u ⟨s, p, n, c, xs, rfl, h, rfl, hn⟩
  exact rt_gives (ratof_c w s p n c xs h (by omega))
theorem g_maybe1 {A D : Int} {k k' lo : Nat} (hk : k' ≤ 67108864) : ∀ w u, RL1 (Rv A D k k') lo u w → Calls Tryz.prog 106 #[u] w (Gives (IS (.bool (decide (0 < D.sign)))) w) := by
  rintro w u ⟨g, x0, x1, y0, y1, rfl, _, hg, a0, a1, b0, b1, e, ⟨s, p, n, c, xs, ea, h, rfl, hn⟩, ⟨t, q, m, d, ys, eb, h', rfl, hm⟩⟩
  simp at e ea eb
  obtain ⟨rfl, rfl, rfl, rfl⟩ := e
  obtain ⟨rfl, rfl⟩ := ea
  obtain ⟨rfl, rfl⟩ := eb
  refine (mayBe1 w g s p n c t q m d ys hg h' (by omega) _ rfl).mono ?_
  rintro e w' ⟨rfl, hb⟩
  exact ⟨_, rfl, hb, rfl⟩
theorem g_maybe2 {A D N M : Int} {k1 k2 k3 k4 lo : Nat} (hk : k2 ≤ 67108864) (hk' : k4 ≤ 67108864) : ∀ w u, RL2 (Rv A D k1 k2) (Rv N M k3 k4) lo u w → Calls Tryz.prog 106 #[u] w (Gives (IS (.bool (decide (0 < D.sign) && decide (0 < M.sign)))) w) := by
  rintro w u ⟨g, x0, x1, y0, y1, z0, z1, u0, u1, rfl, _, hg, ⟨a0, a1, b0, b1, e, ⟨s, p, n, c, xs, ea, h, rfl, hn⟩, ⟨t, q, m, d, ys, eb, h', rfl, hm⟩⟩, ⟨a0', a1', b0', b1', e', ⟨s', p', n', c', xs', ea', h2, rfl, hn'⟩, ⟨t', q', m', d', ys', eb', h2', rfl, hm'⟩⟩⟩
  simp at e ea eb e' ea' eb'
  obtain ⟨rfl, rfl, rfl, rfl⟩ := e
  obtain ⟨rfl, rfl⟩ := ea
  obtain ⟨rfl, rfl⟩ := eb
  obtain ⟨rfl, rfl, rfl, rfl⟩ := e'
  obtain ⟨rfl, rfl⟩ := ea'
  obtain ⟨rfl, rfl⟩ := eb'
  refine (mayBe2 w g s p n c t q m d s' p' n' c' t' q' m' d' ys ys' hg h' h2' (by omega) (by omega) _ rfl).mono ?_
  rintro e w' ⟨rfl, hb⟩
  exact ⟨_, rfl, hb, rfl⟩
theorem rl1_imp {φ φ' : Pr} {lo : Nat} (h : ∀ v w, φ v w → φ' v w) : ∀ v w, RL1 φ lo v w → RL1 φ' lo v w := fun v w ⟨g, x0, x1, y0, y1, e, hl, hg, a⟩ => ⟨g, x0, x1, y0, y1, e, hl, hg, h _ _ a⟩
theorem rl2_imp {φ φ' ψ ψ' : Pr} {lo : Nat} (h : ∀ v w, φ v w → φ' v w) (h' : ∀ v w, ψ v w → ψ' v w) : ∀ v w, RL2 φ ψ lo v w → RL2 φ' ψ' lo v w := fun v w ⟨g, x0, x1, y0, y1, z0, z1, u0, u1, e, hl, hg, a, b⟩ => ⟨g, x0, x1, y0, y1, z0, z1, u0, u1, e, hl, hg, h _ _ a, h' _ _ b⟩
/-- Divided by a number of either sign. -/
def dvN (A N : Int) (M : Nat) : Int := sw (ng N) (A * (M : Int))
theorem g_ratcmp {A N : Int} {D M k1 k2 k3 k4 : Nat} (hD : D ≠ 0) (hM : M ≠ 0) (b1 : k1 ≤ 8388608) (b2 : k2 ≤ 8388608) (b3 : k3 ≤ 8388608) (b4 : k4 ≤ 8388608) : ∀ w u v, Rv A (D : Int) k1 k2 u w → Rv N (M : Int) k3 k4 v w → Calls Tryz.prog 86 #[u, v] w (Gives (TWO (IS (.int .i64 (A * (M : Int) - N * (D : Int)).sign)) (IS (.int .i64 0))) w) := by
  rintro w u v ⟨x0, x1, y0, y1, rfl, ⟨s, p, n, c, xs, ea, h, rfl, hn⟩, ⟨t, q, m, d, ys, eb, h', eD, hm⟩⟩ ⟨z0, z1, u0, u1, rfl, ⟨s', p', n', c', xs', ea', h2, rfl, hn'⟩, ⟨t', q', m', d', ys', eb', h2', eM, hm'⟩⟩
  simp at ea eb ea' eb'
  obtain ⟨rfl, rfl⟩ := ea
  obtain ⟨rfl, rfl⟩ := eb
  obtain ⟨rfl, rfl⟩ := ea'
  obtain ⟨rfl, rfl⟩ := eb'
  obtain ⟨rfl, rfl⟩ := zv_pos eD hD
  obtain ⟨rfl, rfl⟩ := zv_pos eM hM
  refine (ratcmp_ok w s p n c xs q m d s' p' n' c' xs' q' m' d' ys ys' h h2 h' h2' hD hM (by omega) (by omega) (by omega) (by omega)).mono ?_
  rintro e w' ⟨rfl, hb⟩
  exact ⟨_, rfl, hb, _, _, rfl, rfl, rfl⟩

/-! The document's. -/
theorem g_rradd {A N : Int} {D M k1 k2 k3 k4 : Nat} (hD : D ≠ 0) (hM : M ≠ 0) (b1 : k1 ≤ 8388608) (b2 : k2 ≤ 8388608) (b3 : k3 ≤ 8388608) (b4 : k4 ≤ 8388608) : ∀ w u v, Rv A (D : Int) k1 k2 u w → Rv N (M : Int) k3 k4 v w → Calls Tryz.prog 109 #[u, v] w (Gives (RN (nR (A * (M : Int) + N * (D : Int)) (D * M)) (dR (A * (M : Int) + N * (D : Int)) (D * M))) w) := by
  rintro w u v ⟨x0, x1, y0, y1, rfl, ⟨s, p, n, c, xs, ea, h, rfl, hn⟩, ⟨t, q, m, d, ys, eb, h', eD, hm⟩⟩ ⟨z0, z1, u0, u1, rfl, ⟨s', p', n', c', xs', ea', h2, rfl, hn'⟩, ⟨t', q', m', d', ys', eb', h2', eM, hm'⟩⟩
  simp at ea eb ea' eb'
  obtain ⟨rfl, rfl⟩ := ea
  obtain ⟨rfl, rfl⟩ := eb
  obtain ⟨rfl, rfl⟩ := ea'
  obtain ⟨rfl, rfl⟩ := eb'
  obtain ⟨rfl, rfl⟩ := zv_pos eD hD
  obtain ⟨rfl, rfl⟩ := zv_pos eM hM
  exact rt_gives (rradd_c w s p n c xs q m d ys s' p' n' c' xs' q' m' d' ys' h h' h2 h2' hD hM _ _ rfl rfl (by omega) (by omega) (by omega) (by omega))
/-- The document's difference is the sum with the negative, brought into lowest terms first. -/
theorem g_rrsub {A N : Int} {D M k1 k2 k3 k4 : Nat} (hD : D ≠ 0) (hM : M ≠ 0) (b1 : k1 ≤ 8388608) (b2 : k2 ≤ 8388608) (b3 : k3 ≤ 8388608) (b4 : k4 ≤ 8388608) : ∀ w u v, Rv A (D : Int) k1 k2 u w → Rv N (M : Int) k3 k4 v w → Calls Tryz.prog 87 #[u, v] w (Gives (RN (nR (A * (dR (-N) M : Nat) + nR (-N) M * (D : Int)) (D * dR (-N) M)) (dR (A * (dR (-N) M : Nat) + nR (-N) M * (D : Int)) (D * dR (-N) M))) w) := by
  rintro w u v ⟨x0, x1, y0, y1, rfl, ⟨s, p, n, c, xs, ea, h, rfl, hn⟩, ⟨t, q, m, d, ys, eb, h', eD, hm⟩⟩ ⟨z0, z1, u0, u1, rfl, ⟨s', p', n', c', xs', ea', h2, rfl, hn'⟩, ⟨t', q', m', d', ys', eb', h2', eM, hm'⟩⟩
  simp at ea eb ea' eb'
  obtain ⟨rfl, rfl⟩ := ea
  obtain ⟨rfl, rfl⟩ := eb
  obtain ⟨rfl, rfl⟩ := ea'
  obtain ⟨rfl, rfl⟩ := eb'
  obtain ⟨rfl, rfl⟩ := zv_pos eD hD
  obtain ⟨rfl, rfl⟩ := zv_pos eM hM
  exact rt_gives (rrsub_c w s p n c xs q m d ys s' p' n' c' xs' q' m' d' ys' h h' h2 h2' hD hM _ _ rfl rfl (by omega) (by omega) (by omega) (by omega))

end Go.Proofs.YtgalppimdmjdcaaGreat

/-
  rat.fold hands the one rational of a list to a closure; rules for rat.sum and rat.minus.
-/
namespace Go.Proofs.YtgalppimdmjdcaaGreat
open Go Go.RowKit Nt
set_option linter.unusedSimpArgs false
set_option linter.unusedVariables false
set_option maxRecDepth 20000

end Go.Proofs.YtgalppimdmjdcaaGreat

/-
  rat.sum with its closure, rat.minus, rat.Add, rat.Sub.
-/
namespace Go.Proofs.YtgalppimdmjdcaaGreat
open Go Go.RowKit Nt
set_option linter.unusedSimpArgs false
set_option linter.unusedVariables false
set_option maxRecDepth 20000


/-- A list of two rationals that came in. -/
def RX (g : Nat) (x0 x1 y0 y1 z0 z1 u0 u1 : Value) (φ ψ φ' ψ' : Pr) : Pr := fun v w => v = .slice (some ⟨g, 0, none⟩) 2 2 ∧ w.heap[g]? = some (.cells #[x0, x1, y0, y1, z0, z1, u0, u1] 29 (0, 0)) ∧ φ (.agg #[x0, x1]) w ∧ ψ (.agg #[y0, y1]) w ∧ φ' (.agg #[z0, z1]) w ∧ ψ' (.agg #[u0, u1]) w
theorem rx_rl2 {g : Nat} {x0 x1 y0 y1 z0 z1 u0 u1 : Value} {φ ψ φ' ψ' : Pr} : ∀ v w, RX g x0 x1 y0 y1 z0 z1 u0 u1 φ ψ φ' ψ' v w → RL2 (PR φ ψ) (PR φ' ψ') 0 v w := fun v w ⟨e, h, a, b, c, d⟩ => ⟨g, x0, x1, y0, y1, z0, z1, u0, u1, e, Nat.zero_le _, h, ⟨_, _, _, _, rfl, a, b⟩, ⟨_, _, _, _, rfl, c, d⟩⟩
section
variable {ops : Array Oper} {l : List Kd} {bx : Bxs} {sl : List (Tmp × Pr)} {i : Nat} {o : Oper} {Q : Exit → Act → World → Prop} {a0 : Act} {n : Nat} {w0 : World}
theorem owe_rxat {x : Operand} {g : Nat} {x0 x1 y0 y1 z0 z1 u0 u1 : Value} {φ ψ φ' ψ' : Pr} (ho : ops[i]? = some o) (hw : Wants ops l bx sl i o) (hop : o.op = .indexAddr 119 x (.const (.int .i64 0))) (hx : Opnd ops l bx sl i x (RX g x0 x1 y0 y1 z0 z1 u0 u1 φ ψ φ' ψ')) (hk : kdAt l i = .val (Is (.pointer (some ⟨g, 0, none⟩)))) : Owed Tryz.prog ops Q l bx sl a0 n w0 i :=
  owe_is ho hw hk fun vs B a w c => by
    have e := (hx a0 n w0 vs B a w c).now.1
    have e2 : a.eval (.const (.int .i64 0)) = .int .i64 0 := rfl
    unfold execOp
    rw [hop]
    generalize a.eval = ρ at e e2
    go_simp
theorem owe_rxload {x y : Operand} {φ χ : Pr} {g off : Nat} {c0 c1 : Value} (ho : ops[i]? = some o) (hw : Wants ops l bx sl i o) (hop : o.op = .load 27 x) (hx : Opnd ops l bx sl i x (Is (.pointer (some ⟨g, off, none⟩)))) (hy : Opnd ops l bx sl i y φ) (h : ∀ v w, φ v w → w.cell? ⟨g, off, none⟩ = some c0 ∧ w.cell? ⟨g, off + 1, none⟩ = some c1 ∧ χ (.agg #[c0, c1]) w) (hk : kdAt l i = .val χ) : Owed Tryz.prog ops Q l bx sl a0 n w0 i :=
  owe_val ho hw hk fun vs B a w c => by
    have hy := hy a0 n w0 vs B a w c
    obtain ⟨h0, h1, _⟩ := h _ w hy.now
    refine ⟨.agg #[c0, c1], ?_, fun w' e' => (h _ w' (hy w' e')).2.2⟩
    have := load_mid (ρ := a.eval) (o := o) (x := x) (hx a0 n w0 vs B a w c).now h0 h1
    rw [← this]
    unfold execOp
    rw [hop]
/-- A call whose rational takes over the denominator as it is. -/
theorem owe_callPR {φ ξ : Pr} {ψ : Nat → Pr} {f : FuncId} {x : Operand} {ts : Array TypeId} (ho : ops[i]? = some o) (hw : Wants ops l bx sl i o) (hop : o.op = .call { callee := .value (.func f), args := #[x], argTypes := ts }) (hx : Opnd ops l bx sl i x (PR φ ξ)) (hξ : Shp 2 ξ) (hF : Fresh ψ) (hk : kdAt l i = .val (PR (ψ w0.heap.size) ξ))
    (hcf : ∀ args w, (callFunc f args).run Tryz.prog w = .ok (.enter f args) w)
    (C : ∀ w u y0 y1, y0.oneCell' = true ∧ y1.oneCell' = true → PR φ (Is (.agg #[y0, y1])) u w → Calls Tryz.prog f #[u] w (Gives (PRF ψ (IS (.agg #[y0, y1]))) w)) : Owed Tryz.prog ops Q l bx sl a0 n w0 i := fun vs B a w c o' ho' => by
  obtain rfl : o = o' := Option.some.inj (ho.symm.trans ho')
  have hv := hx a0 n w0 vs B a w c
  obtain ⟨x0, x1, y0, y1, e, h1, h2⟩ := hv.now
  have hc := pair_cells hξ h2
  have hr : (execOp a.eval o).run Tryz.prog w = .ok (.enter f #[a.eval x]) w := by
    unfold execOp
    rw [hop]
    have hf : a.eval (.func f) = .func (.func f) #[] #[] := rfl
    clear hv hx c C
    generalize a.eval = ρ at hf
    go_simp
  simp only [wpOp, ho]
  rw [if_pos (hw a0 n w0 vs B a w c)]
  refine Or.inl ?_
  unfold Oper.wp
  rw [hr, Oper.upon_enter]
  refine (C w _ y0 y1 hc ⟨x0, x1, y0, y1, e, h1, rfl⟩).mono ?_
  rintro e' w' ⟨v, rfl, hb, p0, p1, q0, q1, ev, hψ, hi⟩
  have hi : Value.agg #[q0, q1] = .agg #[y0, y1] := hi
  simp at hi
  obtain ⟨rfl, rfl⟩ := hi
  refine ⟨v, rfl, ?_⟩
  rw [hk]
  refine ⟨hb, fun w'' e'' => ⟨p0, p1, q0, q1, ev, hF.mono _ _ _ _ c.lo (hF.ev _ _ _ _ B (fun k hk => (c.bnd k hk).2) hψ e''), ?_⟩⟩
  obtain ⟨x0', x1', y0', y1', e2, _, h2'⟩ := hv w'' ((Ev.of_below hb).back (fun _ _ h => h) e'')
  rw [e] at e2
  simp at e2
  rw [e2.2.2.1, e2.2.2.2]
  exact h2'
end
theorem shp_cells {y0 y1 : Value} (h : y0.oneCell' = true ∧ y1.oneCell' = true) : Shp 2 (Is (.agg #[y0, y1])) := fun u w e => ⟨_, e, rfl, by simp [h.1, h.2]⟩
theorem rv4_cells {A D : Int} {k k' : Nat} {x0 x1 y0 y1 : Value} {w : World} (h : Zv A k (.agg #[x0, x1]) w) (h' : Zv D k' (.agg #[y0, y1]) w) : ∃ s p n c t q m d, x0 = .bool s ∧ x1 = .slice p n c ∧ y0 = .bool t ∧ y1 = .slice q m d := by
  obtain ⟨s, p, n, c, xs, e, _⟩ := h
  obtain ⟨t, q, m, d, ys, e', _⟩ := h'
  simp at e e'
  exact ⟨s, p, n, c, t, q, m, d, e.1, e.2, e'.1, e'.2⟩

theorem eval_self {a : Act} {d : Tmp} {v : Value} (h : d < a.tmps.size) : (a.put (some d) v).eval (.tmp d) = v := by simp [Act.eval, Act.put, h]
theorem eval_far {a : Act} {d t : Tmp} {v : Value} (h : t ≠ d) : (a.put (some d) v).eval (.tmp t) = a.eval (.tmp t) := Act.eval_put (fun d' hd' e => by
  cases hd'
  simp at e
  first | exact h e | exact h e.symm)
theorem Sta.drop1 {w0 W : World} {n : Nat} {bx : Bxs} {x : Tmp × Pr} {sl : List (Tmp × Pr)} {B : Nat → Prop} {a : Act} (S : Sta w0 n bx (x :: sl) B a W) : Sta w0 n bx sl B a W := ⟨S.ent, S.bnd, S.siz, S.dfr, S.box, S.sep, fun y hy => S.slt y (List.mem_cons_of_mem _ hy)⟩

theorem rx_has {g : Nat} {x0 x1 y0 y1 z0 z1 u0 u1 : Value} {A D N M : Int} {k1 k2 k3 k4 : Nat} {w : World} {v : Value} (h : RX g x0 x1 y0 y1 z0 z1 u0 u1 (Zv A k1) (Zv D k2) (Zv N k3) (Zv M k4) v w) : Has (fun _ => False) w (RX g x0 x1 y0 y1 z0 z1 u0 u1 (Zv A k1) (Zv D k2) (Zv N k3) (Zv M k4)) v := fun w' e =>
  ⟨h.1, (e.block g (Array.getElem?_eq_some_iff.1 h.2.1).1 (fun x => x)).trans h.2.1, zv_has h.2.2.1 w' e, zv_has h.2.2.2.1 w' e, zv_has h.2.2.2.2.1 w' e, zv_has h.2.2.2.2.2 w' e⟩

theorem pos_sign {D : Nat} (h : D ≠ 0) : (D : Int).sign = 1 := Int.sign_eq_one_of_pos (by omega)
theorem zvn_len {A : Int} {k : Nat} {u : Value} {w : World} (h : Zv A k u w) : (digs A.natAbs).length ≤ k := by
  obtain ⟨s, p, n, c, xs, rfl, hs, rfl, hn⟩ := h
  exact Nat.le_trans (sg_dl hs) hn
/-- The sum of two rationals. -/
def adN (A N : Int) (D M : Nat) : Int := A * (M : Int) + N * (D : Int)
end Go.Proofs.YtgalppimdmjdcaaGreat

/-
  The document's quotients: Floor, Near, Exact.
-/
namespace Go.Proofs.YtgalppimdmjdcaaGreat
open Go Go.RowKit Nt
set_option linter.unusedSimpArgs false
set_option linter.unusedVariables false
set_option maxRecDepth 20000

theorem sg_rest (s t : Bool) (x y : Nat) : sg s x - sg (s != t) (x / y) * sg t y = sg s (x % y) := by
  have e : ((y * (x / y) + x % y : Nat) : Int) = (x : Int) := by rw [Nat.div_add_mod]
  rw [Int.natCast_add, Int.natCast_mul] at e
  obtain ⟨q, hq⟩ : ∃ q, x / y = q := ⟨_, rfl⟩
  obtain ⟨r, hr⟩ : ∃ r, x % y = r := ⟨_, rfl⟩
  rw [hq, hr] at e ⊢
  rw [Int.mul_comm] at e
  cases s <;> cases t <;> simp [sg, Int.neg_mul, Int.mul_neg] <;> omega
theorem sg_sign0 (s : Bool) (r : Nat) : (sg s r).sign = 0 ↔ r = 0 := by
  rw [Int.sign_eq_zero_iff_zero]
  unfold sg
  split <;> omega
theorem sg_sign_eq {s t : Bool} {r y : Nat} (hr : r ≠ 0) (hy : y ≠ 0) : (sg s r).sign = (sg t y).sign ↔ s = t := by
  have h1 : ∀ (b : Bool) (k : Nat), k ≠ 0 → (sg b k).sign = if b then -1 else 1 := by
    intro b k hk
    unfold sg
    cases b
    · simp only [Bool.false_eq_true, if_false]; exact Int.sign_eq_one_of_pos (by omega)
    · simp only [if_true]; exact Int.sign_eq_neg_one_of_neg (by omega)
  rw [h1 s r hr, h1 t y hy]
  cases s <;> cases t <;> simp
theorem rm_le {A B : Int} (hB : B ≠ 0) : (rm A B).natAbs ≤ B.natAbs := by
  unfold rm fl
  by_cases hp : 0 < B
  · rw [if_pos hp]
    have h1 := Int.emod_nonneg A (by omega : B ≠ 0)
    have h2 := Int.emod_lt_of_pos A hp
    have h3 := Int.mul_ediv_add_emod A B
    rw [Int.mul_comm] at h3
    omega
  · rw [if_neg hp]
    have h1 := Int.emod_nonneg (-A) (by omega : -B ≠ 0)
    have h2 := Int.emod_lt_of_pos (-A) (by omega : 0 < -B)
    have h3 := Int.mul_ediv_add_emod (-A) (-B)
    rw [Int.mul_comm, Int.mul_neg] at h3
    omega

end Go.Proofs.YtgalppimdmjdcaaGreat

/-
  zint's quotients: Floor, Near, Exact, whole.
-/
namespace Go.Proofs.YtgalppimdmjdcaaGreat
open Go Go.RowKit Nt
set_option linter.unusedSimpArgs false
set_option linter.unusedVariables false
set_option maxRecDepth 20000


theorem zv_ne {t : Bool} {ys : List Nat} {B : Int} (e : sg t (val ys) = B) (hB : B ≠ 0) : val ys ≠ 0 := fun h => hB (by rw [← e, h]; cases t <;> rfl)
theorem zv_eq {t : Bool} {ys : List Nat} {B : Int} (e : sg t (val ys) = B) (hB : B = 0) : val ys = 0 := by
  rw [hB] at e
  have := sg_abs t (val ys)
  rw [e] at this
  simpa using this.symm
theorem zv_abs {t : Bool} {ys : List Nat} {B : Int} (e : sg t (val ys) = B) : val ys = B.natAbs := by rw [← e, sg_abs]
theorem rm_bounds {A B : Int} (hB : B ≠ 0) : A = fl A B * B + rm A B ∧ (0 < B → 0 ≤ rm A B ∧ rm A B < B) ∧ (B < 0 → B < rm A B ∧ rm A B ≤ 0) := by
  unfold rm
  refine ⟨by omega, fun hp => ?_, fun hp => ?_⟩
  · unfold fl
    rw [if_pos hp]
    have h1 := Int.emod_nonneg A (by omega : B ≠ 0)
    have h2 := Int.emod_lt_of_pos A hp
    have h3 := Int.mul_ediv_add_emod A B
    rw [Int.mul_comm] at h3
    omega
  · unfold fl
    rw [if_neg (by omega)]
    have h1 := Int.emod_nonneg (-A) (by omega : -B ≠ 0)
    have h2 := Int.emod_lt_of_pos (-A) (by omega : 0 < -B)
    have h3 := Int.mul_ediv_add_emod (-A) (-B)
    rw [Int.mul_comm, Int.mul_neg] at h3
    omega
/-- The nearest whole number. -/
def nr (A B : Int) : Int := fl (2 * A + B) (2 * B)
theorem near_up {A B : Int} (hB : B ≠ 0) (h : B.natAbs ≤ 2 * (rm A B).natAbs) : fl A B + 1 = nr A B := by
  obtain ⟨e, h1, h2⟩ := rm_bounds (A := A) hB
  refine (fl_unique (r := 2 * rm A B - B) (by omega) ?_ (fun hp => ?_) (fun hp => ?_)).1.symm
  · rw [Int.add_mul]
    have : fl A B * (2 * B) = 2 * (fl A B * B) := by rw [← Int.mul_assoc, Int.mul_comm (fl A B) 2, Int.mul_assoc]
    omega
  · have := h1 (by omega); omega
  · have := h2 (by omega); omega
theorem near_down {A B : Int} (hB : B ≠ 0) (h : 2 * (rm A B).natAbs < B.natAbs) : fl A B = nr A B := by
  obtain ⟨e, h1, h2⟩ := rm_bounds (A := A) hB
  refine (fl_unique (r := 2 * rm A B + B) (by omega) ?_ (fun hp => ?_) (fun hp => ?_)).1.symm
  · have : fl A B * (2 * B) = 2 * (fl A B * B) := by rw [← Int.mul_assoc, Int.mul_comm (fl A B) 2, Int.mul_assoc]
    omega
  · have := h1 (by omega); omega
  · have := h2 (by omega); omega
theorem cmpN_ge0 {x y : Nat} (h : y ≤ x) : 0 ≤ cmpN x y := by unfold cmpN; split; omega; split <;> omega
theorem cmpN_lt0 {x y : Nat} (h : x < y) : cmpN x y < 0 := by unfold cmpN; rw [if_pos h]; omega

theorem fl_abs {A B : Int} (hB : B ≠ 0) : (fl A B).natAbs ≤ A.natAbs + 1 := by
  obtain ⟨e, h1, h2⟩ := rm_bounds (A := A) hB
  have key : (fl A B * B).natAbs ≤ A.natAbs + (rm A B).natAbs := by omega
  have hr : (rm A B).natAbs < B.natAbs := by
    rcases Int.lt_or_gt_of_ne hB with hp | hp
    · have := h2 hp; omega
    · have := h1 hp; omega
  rw [Int.natAbs_mul] at key
  obtain ⟨f, hf⟩ : ∃ f, (fl A B).natAbs = f := ⟨_, rfl⟩
  obtain ⟨b, hb⟩ : ∃ b, B.natAbs = b := ⟨_, rfl⟩
  rw [hf, hb] at key
  rw [hb] at hr
  rw [hf]
  apply Classical.byContradiction
  intro hc
  obtain ⟨k, rfl⟩ : ∃ k, f = A.natAbs + 2 + k := ⟨f - (A.natAbs + 2), by omega⟩
  have h3 : (A.natAbs + 2 + k) * b = A.natAbs * b + 2 * b + k * b := by rw [Nat.add_mul, Nat.add_mul]
  have h4 : A.natAbs * 1 ≤ A.natAbs * b := Nat.mul_le_mul_left _ (by omega)
  omega
theorem fl_len {A B : Int} {n : Nat} (hB : B ≠ 0) (h : (digs A.natAbs).length ≤ n) : (digs (fl A B).natAbs).length ≤ n + 1 := by
  refine Nat.le_trans (digs_length_mono (fl_abs hB)) ?_
  by_cases hn : n = 0
  · subst hn
    have : A.natAbs = 0 := (digs_length_zero _).1 (by omega)
    rw [this]
    exact digs_length_le (by omega)
  · refine digs_add_len h (Nat.le_trans (digs_length_le (k := 1) (by omega)) (by omega))

set_option maxHeartbeats 400000 in
theorem zexact_w0 (w : World) (s t : Bool) (p q : Option Addr) (n c m d : Nat) (xs ys : List Nat) (h : Sl w p n c xs) (h' : Sl w q m d ys) (hy : val ys = 0) :
    Calls Tryz.prog 98 #[.agg #[.bool s, .slice p n c], .agg #[.bool t, .slice q m d]] w (Gives (TWO (IS (.agg #[.bool false, .slice none 0 0])) (IS (.int .i64 11))) w) := by
  refine calls_sta (sl := [(0, (Zx s p n c xs)), (1, (Zx t q m d ys))]) Tryz.func98 rfl Tryz.ntmps98 (by simp) (args_cons rfl (zx_has h) (args_cons rfl (zx_has h') args_nil)) ?_
  intro a0 S0
  refine wp_stmt_seq [.new (.box 27 (Zx s p n c xs)), .new (.box 27 (Zx t q m d ys)), .new (.box 27 zI), .val (iV 0)] [.inl 0, .inl 1, .inl 2] [.inl 3] follows S0 rfl (by kernel_rfl) ?_ ?_
  · refine ⟨⟨⟨⟨trivial, ?_⟩, ?_⟩, ?_⟩, ?_⟩
    · exact owe_box rfl wA rfl (oS 0 0) rfl (fun ρ w h => box_int shp_zx ρ _ _ w h)
    · exact owe_box rfl wA rfl (oS 1 1) rfl (fun ρ w h => box_int shp_zx ρ _ _ w h)
    · exact owe_new rfl wA rfl rfl (fun ρ w => alloc_int ρ _ w)
    · exact mC
  intro B1 a1 W1 (S1 : Sta w 35 [(2, (.box 27 (Zx s p n c xs))), (3, (.box 27 (Zx t q m d ys))), (4, (.box 27 zI))] [(5, iV 0)] _ _ _)
  refine wp_stmt_seq [.val (Part a1 2 1), .val (Nx p n c xs), .val (Part a1 3 1), .val (Nx q m d ys), .val ((THREE (IS (.slice none 0 0)) (IS (.slice none 0 0)) (IS (.int .i64 11))) w.heap.size), .val ((THREE (IS (.slice none 0 0)) (IS (.slice none 0 0)) (IS (.int .i64 11))) w.heap.size), .val (Is (.slice none 0 0)), .val (Is (.slice none 0 0)), .val (iV 11), .val (Is (.slice none 0 0)), .val (Is (.slice none 0 0)), .val (iV 11)] [.inr 0, .inr 1, .inr 2] [.inl 9, .inl 10, .inl 11, .inr 0] follows S1 rfl (by kernel_rfl) ?_ ?_
  · repeat' refine And.intro ?_ ?_
    · trivial
    · exact owe_part rfl wA rfl (k := 0) rfl (by kernel_rfl) rfl (fun ρ w b h => part_int1 ρ _ _ w b 0 h)
    · exact owe_pload rfl wA rfl (oO 0 10) (k := 0) rfl (by kernel_rfl) rfl (fun ρ w b u h1 h2 h3 => pload_mag zx_mag ρ _ _ w b u h1 h2 h3)
    · exact owe_part rfl wA rfl (k := 1) rfl (by kernel_rfl) rfl (fun ρ w b h => part_int1 ρ _ _ w b 0 h)
    · exact owe_pload rfl wA rfl (oO 2 12) (k := 1) rfl (by kernel_rfl) rfl (fun ρ w b u h1 h2 h3 => pload_mag zx_mag ρ _ _ w b u h1 h2 h3)
    · exact cc2 wA (qO 1 11 rfl) (qO 3 13 rfl) (fresh_three (fresh_is _) (fresh_is _) (fresh_is _)) (fun w u v h1 h2 => g_div0 hy w u v ((nx_nv (Nat.le_refl _)) _ _ h1) ((nx_nv (Nat.le_refl _)) _ _ h2))
    · exact mO 4 14
    · exact e30 wA (oO 5 9)
    · exact e31 wA (oO 5 9)
    · exact e32 wA (oO 5 9)
    · exact mO 6 15
    · exact mO 7 16
    · exact mO 8 17
  intro B2 a2 W2 (S2 : Sta w 35 [(2, (.box 27 (Zx s p n c xs))), (3, (.box 27 (Zx t q m d ys))), (4, (.box 27 zI))] [(6, Is (.slice none 0 0)), (7, Is (.slice none 0 0)), (8, iV 11), (5, iV 0)] _ _ _)
  refine wp_seq ?_
  refine wp_block ?_
  refine wp_stmt_seq [.val (iV 11), kT, kT] [.inr 0, .inr 1, .inr 2] [.inl 2, .inr 0, .inr 1, .inr 2, .inr 3] follows S2 rfl (by kernel_rfl) ?_ ?_
  · refine ⟨⟨⟨trivial, ?_⟩, ?_⟩, ?_⟩
    · exact mS 2 8
    · exact b_neq_errno_t wA (oO 0 19) (opnd_const _) (h := by decide)
    · exact mO 1 20
  intro B3 a3 W3 (S3 : Sta w 35 [(2, (.box 27 (Zx s p n c xs))), (3, (.box 27 (Zx t q m d ys))), (4, (.box 27 zI))] [(18, bT), (6, Is (.slice none 0 0)), (7, Is (.slice none 0 0)), (8, iV 11), (5, iV 0)] _ _ _)
  refine wp_cond_true (S3.bool 0 18 rfl) ?_
  refine wp_stmt_seq [.val zI, .val (iV 11), .put (.inl 4) (.box 27 zI), .val (iV 11)] [.inr 0, .inr 1, .inr 2] [.inl 3, .inr 0, .inr 1, .inr 2, .inr 3] follows S3 rfl (by kernel_rfl) ?_ ?_
  · refine ⟨⟨⟨⟨trivial, ?_⟩, ?_⟩, ?_⟩, ?_⟩
    · exact owe_build_int rfl wA rfl rfl
    · exact mS 3 8
    · exact owe_set rfl wA rfl (k := 2) rfl (by kernel_rfl) (oO 0 21) (stores_of strct_int shp_z0 shp_z0) rfl
    · exact mO 1 22
  intro B4 a4 W4 (S4 : Sta w 35 [(2, (.box 27 (Zx s p n c xs))), (3, (.box 27 (Zx t q m d ys))), (4, (.box 27 zI))] [(5, iV 11), (18, bT), (6, Is (.slice none 0 0)), (7, Is (.slice none 0 0)), (8, iV 11)] _ _ _)
  refine wp_ret ?_
  refine inBlkR ?_
  refine thenR ?_
  exact end_two S4 rfl (res_cell S4 2 4 rfl strct_int shp_z0) (res_tmp S4 0 5 rfl)

set_option maxHeartbeats 400000 in
theorem zexact_w1 (w : World) (s t : Bool) (p q : Option Addr) (n c m d : Nat) (xs ys : List Nat) (h : Sl w p n c xs) (h' : Sl w q m d ys) (hy : val ys ≠ 0) (hl : (0 : Int) < (((digs (val xs % val ys)).length : Nat) : Int)) (hs : n + m + 9 ≤ 35184372088831) :
    Calls Tryz.prog 98 #[.agg #[.bool s, .slice p n c], .agg #[.bool t, .slice q m d]] w (Gives (TWO (IS (.agg #[.bool false, .slice none 0 0])) (IS (.int .i64 20))) w) := by
  refine calls_sta (sl := [(0, (Zx s p n c xs)), (1, (Zx t q m d ys))]) Tryz.func98 rfl Tryz.ntmps98 (by simp) (args_cons rfl (zx_has h) (args_cons rfl (zx_has h') args_nil)) ?_
  intro a0 S0
  refine wp_stmt_seq [.new (.box 27 (Zx s p n c xs)), .new (.box 27 (Zx t q m d ys)), .new (.box 27 zI), .val (iV 0)] [.inl 0, .inl 1, .inl 2] [.inl 3] follows S0 rfl (by kernel_rfl) ?_ ?_
  · refine ⟨⟨⟨⟨trivial, ?_⟩, ?_⟩, ?_⟩, ?_⟩
    · exact owe_box rfl wA rfl (oS 0 0) rfl (fun ρ w h => box_int shp_zx ρ _ _ w h)
    · exact owe_box rfl wA rfl (oS 1 1) rfl (fun ρ w h => box_int shp_zx ρ _ _ w h)
    · exact owe_new rfl wA rfl rfl (fun ρ w => alloc_int ρ _ w)
    · exact mC
  intro B1 a1 W1 (S1 : Sta w 35 [(2, (.box 27 (Zx s p n c xs))), (3, (.box 27 (Zx t q m d ys))), (4, (.box 27 zI))] [(5, iV 0)] _ _ _)
  refine wp_stmt_seq [.val (Part a1 2 1), .val (Nx p n c xs), .val (Part a1 3 1), .val (Nx q m d ys), .val ((THREE (NN (val xs / val ys)) (NN (val xs % val ys)) (IS (.int .i64 0))) w.heap.size), .val ((THREE (NN (val xs / val ys)) (NN (val xs % val ys)) (IS (.int .i64 0))) w.heap.size), .val ((NN (val xs / val ys)) w.heap.size), .val ((NN (val xs % val ys)) w.heap.size), .val (iV 0), .val ((NN (val xs / val ys)) w.heap.size), .val ((NN (val xs % val ys)) w.heap.size), .val (iV 0)] [.inr 0, .inr 1, .inr 2] [.inl 9, .inl 10, .inl 11, .inr 0] follows S1 rfl (by kernel_rfl) ?_ ?_
  · repeat' refine And.intro ?_ ?_
    · trivial
    · exact owe_part rfl wA rfl (k := 0) rfl (by kernel_rfl) rfl (fun ρ w b h => part_int1 ρ _ _ w b 0 h)
    · exact owe_pload rfl wA rfl (oO 0 10) (k := 0) rfl (by kernel_rfl) rfl (fun ρ w b u h1 h2 h3 => pload_mag zx_mag ρ _ _ w b u h1 h2 h3)
    · exact owe_part rfl wA rfl (k := 1) rfl (by kernel_rfl) rfl (fun ρ w b h => part_int1 ρ _ _ w b 0 h)
    · exact owe_pload rfl wA rfl (oO 2 12) (k := 1) rfl (by kernel_rfl) rfl (fun ρ w b u h1 h2 h3 => pload_mag zx_mag ρ _ _ w b u h1 h2 h3)
    · exact cc2 wA (qO 1 11 rfl) (qO 3 13 rfl) (fresh_three (fresh_nn _) (fresh_nn _) (fresh_is _)) (fun w u v h1 h2 => g_div hy (by omega) w u v ((nx_nv (Nat.le_refl _)) _ _ h1) ((nx_nv (Nat.le_refl _)) _ _ h2))
    · exact mO 4 14
    · exact e30 wA (oO 5 9)
    · exact e31 wA (oO 5 9)
    · exact e32 wA (oO 5 9)
    · exact mO 6 15
    · exact mO 7 16
    · exact mO 8 17
  intro B2 a2 W2 (S2 : Sta w 35 [(2, (.box 27 (Zx s p n c xs))), (3, (.box 27 (Zx t q m d ys))), (4, (.box 27 zI))] [(6, ((NN (val xs / val ys)) w.heap.size)), (7, ((NN (val xs % val ys)) w.heap.size)), (8, iV 0), (5, iV 0)] _ _ _)
  refine wp_seq ?_
  refine wp_block ?_
  refine wp_stmt_seq [.val (iV 0), kF, kF] [.inr 0, .inr 1, .inr 2] [.inl 2, .inr 0, .inr 1, .inr 2, .inr 3] follows S2 rfl (by kernel_rfl) ?_ ?_
  · refine ⟨⟨⟨trivial, ?_⟩, ?_⟩, ?_⟩
    · exact mS 2 8
    · exact b_neq_errno_f wA (oO 0 19) (opnd_const _) (h := rfl)
    · exact mO 1 20
  intro B3 a3 W3 (S3 : Sta w 35 [(2, (.box 27 (Zx s p n c xs))), (3, (.box 27 (Zx t q m d ys))), (4, (.box 27 zI))] [(18, bF), (6, ((NN (val xs / val ys)) w.heap.size)), (7, ((NN (val xs % val ys)) w.heap.size)), (8, iV 0), (5, iV 0)] _ _ _)
  refine wp_cond_false (S3.bool 0 18 rfl) ?_
  refine wp_stmt_seq [.val ((NN (val xs % val ys)) w.heap.size), .val (Is (.int .i64 ((digs (val xs % val ys)).length : Nat))), kT, kT] [.inr 0, .inr 1, .inr 2] [.inl 3, .inr 0, .inr 1, .inr 3, .inr 4] follows S3 rfl (by kernel_rfl) ?_ ?_
  · refine ⟨⟨⟨⟨trivial, ?_⟩, ?_⟩, ?_⟩, ?_⟩
    · exact mS 2 7
    · exact owe_len rfl wA rfl (oO 0 24) nn_len Tryz.underlying25 rfl
    · exact b_gtr_int_t wA (oO 1 25) (opnd_const _) (h := hl)
    · exact mO 2 26
  intro B4 a4 W4 (S4 : Sta w 35 [(2, (.box 27 (Zx s p n c xs))), (3, (.box 27 (Zx t q m d ys))), (4, (.box 27 zI))] [(23, bT), (18, bF), (6, ((NN (val xs / val ys)) w.heap.size)), (8, iV 0), (5, iV 0)] _ _ _)
  refine wp_cond_true (S4.bool 0 23 rfl) ?_
  refine wp_stmt_seq [.val zI, .put (.inl 4) (.box 27 zI), .val (iV 20)] [.inr 0, .inr 1, .inr 2] [.inl 2, .inr 0, .inr 1, .inr 2, .inr 3] follows S4 rfl (by kernel_rfl) ?_ ?_
  · refine ⟨⟨⟨trivial, ?_⟩, ?_⟩, ?_⟩
    · exact owe_build_int rfl wA rfl rfl
    · exact owe_set rfl wA rfl (k := 2) rfl (by kernel_rfl) (oO 0 27) (stores_of strct_int shp_z0 shp_z0) rfl
    · exact mC
  intro B5 a5 W5 (S5 : Sta w 35 [(2, (.box 27 (Zx s p n c xs))), (3, (.box 27 (Zx t q m d ys))), (4, (.box 27 zI))] [(5, iV 20), (23, bT), (18, bF), (6, ((NN (val xs / val ys)) w.heap.size)), (8, iV 0)] _ _ _)
  refine wp_ret ?_
  refine inBlkR ?_
  refine thenR ?_
  exact end_two S5 rfl (res_cell S5 2 4 rfl strct_int shp_z0) (res_tmp S5 0 5 rfl)

set_option maxHeartbeats 400000 in
theorem zexact_w2 (w : World) (s t : Bool) (p q : Option Addr) (n c m d : Nat) (xs ys : List Nat) (h : Sl w p n c xs) (h' : Sl w q m d ys) (hy : val ys ≠ 0) (hl : (((digs (val xs % val ys)).length : Nat) : Int) ≤ 0) (hs : n + m + 9 ≤ 35184372088831) :
    Calls Tryz.prog 98 #[.agg #[.bool s, .slice p n c], .agg #[.bool t, .slice q m d]] w (Gives (TWO (ZN (sg (s != t) (val xs / val ys))) (IS (.int .i64 0))) w) := by
  refine calls_sta (sl := [(0, (Zx s p n c xs)), (1, (Zx t q m d ys))]) Tryz.func98 rfl Tryz.ntmps98 (by simp) (args_cons rfl (zx_has h) (args_cons rfl (zx_has h') args_nil)) ?_
  intro a0 S0
  refine wp_stmt_seq [.new (.box 27 (Zx s p n c xs)), .new (.box 27 (Zx t q m d ys)), .new (.box 27 zI), .val (iV 0)] [.inl 0, .inl 1, .inl 2] [.inl 3] follows S0 rfl (by kernel_rfl) ?_ ?_
  · refine ⟨⟨⟨⟨trivial, ?_⟩, ?_⟩, ?_⟩, ?_⟩
    · exact owe_box rfl wA rfl (oS 0 0) rfl (fun ρ w h => box_int shp_zx ρ _ _ w h)
    · exact owe_box rfl wA rfl (oS 1 1) rfl (fun ρ w h => box_int shp_zx ρ _ _ w h)
    · exact owe_new rfl wA rfl rfl (fun ρ w => alloc_int ρ _ w)
    · exact mC
  intro B1 a1 W1 (S1 : Sta w 35 [(2, (.box 27 (Zx s p n c xs))), (3, (.box 27 (Zx t q m d ys))), (4, (.box 27 zI))] [(5, iV 0)] _ _ _)
  refine wp_stmt_seq [.val (Part a1 2 1), .val (Nx p n c xs), .val (Part a1 3 1), .val (Nx q m d ys), .val ((THREE (NN (val xs / val ys)) (NN (val xs % val ys)) (IS (.int .i64 0))) w.heap.size), .val ((THREE (NN (val xs / val ys)) (NN (val xs % val ys)) (IS (.int .i64 0))) w.heap.size), .val ((NN (val xs / val ys)) w.heap.size), .val ((NN (val xs % val ys)) w.heap.size), .val (iV 0), .val ((NN (val xs / val ys)) w.heap.size), .val ((NN (val xs % val ys)) w.heap.size), .val (iV 0)] [.inr 0, .inr 1, .inr 2] [.inl 9, .inl 10, .inl 11, .inr 0] follows S1 rfl (by kernel_rfl) ?_ ?_
  · repeat' refine And.intro ?_ ?_
    · trivial
    · exact owe_part rfl wA rfl (k := 0) rfl (by kernel_rfl) rfl (fun ρ w b h => part_int1 ρ _ _ w b 0 h)
    · exact owe_pload rfl wA rfl (oO 0 10) (k := 0) rfl (by kernel_rfl) rfl (fun ρ w b u h1 h2 h3 => pload_mag zx_mag ρ _ _ w b u h1 h2 h3)
    · exact owe_part rfl wA rfl (k := 1) rfl (by kernel_rfl) rfl (fun ρ w b h => part_int1 ρ _ _ w b 0 h)
    · exact owe_pload rfl wA rfl (oO 2 12) (k := 1) rfl (by kernel_rfl) rfl (fun ρ w b u h1 h2 h3 => pload_mag zx_mag ρ _ _ w b u h1 h2 h3)
    · exact cc2 wA (qO 1 11 rfl) (qO 3 13 rfl) (fresh_three (fresh_nn _) (fresh_nn _) (fresh_is _)) (fun w u v h1 h2 => g_div hy (by omega) w u v ((nx_nv (Nat.le_refl _)) _ _ h1) ((nx_nv (Nat.le_refl _)) _ _ h2))
    · exact mO 4 14
    · exact e30 wA (oO 5 9)
    · exact e31 wA (oO 5 9)
    · exact e32 wA (oO 5 9)
    · exact mO 6 15
    · exact mO 7 16
    · exact mO 8 17
  intro B2 a2 W2 (S2 : Sta w 35 [(2, (.box 27 (Zx s p n c xs))), (3, (.box 27 (Zx t q m d ys))), (4, (.box 27 zI))] [(6, ((NN (val xs / val ys)) w.heap.size)), (7, ((NN (val xs % val ys)) w.heap.size)), (8, iV 0), (5, iV 0)] _ _ _)
  refine wp_seq ?_
  refine wp_block ?_
  refine wp_stmt_seq [.val (iV 0), kF, kF] [.inr 0, .inr 1, .inr 2] [.inl 2, .inr 0, .inr 1, .inr 2, .inr 3] follows S2 rfl (by kernel_rfl) ?_ ?_
  · refine ⟨⟨⟨trivial, ?_⟩, ?_⟩, ?_⟩
    · exact mS 2 8
    · exact b_neq_errno_f wA (oO 0 19) (opnd_const _) (h := rfl)
    · exact mO 1 20
  intro B3 a3 W3 (S3 : Sta w 35 [(2, (.box 27 (Zx s p n c xs))), (3, (.box 27 (Zx t q m d ys))), (4, (.box 27 zI))] [(18, bF), (6, ((NN (val xs / val ys)) w.heap.size)), (7, ((NN (val xs % val ys)) w.heap.size)), (8, iV 0), (5, iV 0)] _ _ _)
  refine wp_cond_false (S3.bool 0 18 rfl) ?_
  refine wp_stmt_seq [.val ((NN (val xs % val ys)) w.heap.size), .val (Is (.int .i64 ((digs (val xs % val ys)).length : Nat))), kF, kF] [.inr 0, .inr 1, .inr 2] [.inl 3, .inr 0, .inr 1, .inr 3, .inr 4] follows S3 rfl (by kernel_rfl) ?_ ?_
  · refine ⟨⟨⟨⟨trivial, ?_⟩, ?_⟩, ?_⟩, ?_⟩
    · exact mS 2 7
    · exact owe_len rfl wA rfl (oO 0 24) nn_len Tryz.underlying25 rfl
    · exact b_gtr_int_f wA (oO 1 25) (opnd_const _) (h := hl)
    · exact mO 2 26
  intro B4 a4 W4 (S4 : Sta w 35 [(2, (.box 27 (Zx s p n c xs))), (3, (.box 27 (Zx t q m d ys))), (4, (.box 27 zI))] [(23, bF), (18, bF), (6, ((NN (val xs / val ys)) w.heap.size)), (8, iV 0), (5, iV 0)] _ _ _)
  refine wp_cond_false (S4.bool 0 23 rfl) ?_
  refine wp_skip ?_
  refine inBlkN ?_
  refine thenN ?_
  refine wp_stmt_seq [.val (Part a4 2 0), .val (Is (.bool s)), .val (Part a4 3 0), .val (Is (.bool t)), .val (Is (.bool (s != t))), .val ((NN (val xs / val ys)) w.heap.size), .val ((ZN (sg (s != t) (val xs / val ys))) w.heap.size), .put (.inl 4) (.box 27 ((ZN (sg (s != t) (val xs / val ys))) w.heap.size)), .val (iV 0)] [.inr 0, .inr 1, .inr 2] [.inl 8, .inr 0, .inr 1, .inr 3] follows S4 rfl (by kernel_rfl) ?_ ?_
  · repeat' refine And.intro ?_ ?_
    · trivial
    · exact owe_part rfl wA rfl (k := 0) rfl (by kernel_rfl) rfl (fun ρ w b h => part_int0 ρ _ _ w b 0 h)
    · exact owe_pload rfl wA rfl (oO 0 28) (k := 0) rfl (by kernel_rfl) rfl (fun ρ w b u h1 h2 h3 => pload_neg zx_neg ρ _ _ w b u h1 h2 h3)
    · exact owe_part rfl wA rfl (k := 1) rfl (by kernel_rfl) rfl (fun ρ w b h => part_int0 ρ _ _ w b 0 h)
    · exact owe_pload rfl wA rfl (oO 2 30) (k := 1) rfl (by kernel_rfl) rfl (fun ρ w b u h1 h2 h3 => pload_neg zx_neg ρ _ _ w b u h1 h2 h3)
    · exact b_neq_bool wA (oO 1 29) (oO 3 31)
    · exact mS 2 6
    · exact owe_callF2 rfl wA rfl (oO 4 32) (oO 5 33) rfl (fun args w => by go_simp) g_signed
    · exact owe_set rfl wA rfl (k := 2) rfl (by kernel_rfl) (oO 6 34) (stores_of strct_int shp_z0 shp_zn) rfl
    · exact mC
  intro B5 a5 W5 (S5 : Sta w 35 [(2, (.box 27 (Zx s p n c xs))), (3, (.box 27 (Zx t q m d ys))), (4, (.box 27 ((ZN (sg (s != t) (val xs / val ys))) w.heap.size)))] [(5, iV 0), (23, bF), (18, bF), (8, iV 0)] _ _ _)
  refine wp_ret ?_
  exact end_two S5 rfl (res_cell S5 2 4 rfl strct_int shp_zn) (res_tmp S5 0 5 rfl)

theorem g_zexact0 {A B : Int} {ka kb : Nat} (hB : B = 0)  : ∀ w u v, Zv A ka u w → Zv B kb v w → Calls Tryz.prog 98 #[u, v] w (Gives (TWO (IS (.agg #[.bool false, .slice none 0 0])) (IS (.int .i64 11))) w) := by
  rintro w u v ⟨s, p, n, c, xs, rfl, h, rfl, hn⟩ ⟨t, q, m, d, ys, rfl, h', rfl, hm⟩
  exact zexact_w0 w s t p q n c m d xs ys h h' (zv_eq rfl hB)


theorem rm_zero {s t : Bool} {x y : Nat} (hy : y ≠ 0) : rm (sg s x) (sg t y) = 0 ↔ x % y = 0 := by
  by_cases h0 : x % y = 0
  · rw [(floor_plain s t x y hy (Or.inr h0)).2, h0]
    constructor
    · exact fun _ => rfl
    · intro _; cases t <;> rfl
  · have hlt := Nat.mod_lt x (Nat.pos_of_ne_zero hy)
    have : rm (sg s x) (sg t y) ≠ 0 := by
      by_cases hst : s = t
      · rw [(floor_plain s t x y hy (Or.inl hst)).2]
        intro e
        have := sg_abs t (x % y)
        rw [e] at this
        exact h0 (by simpa using this.symm)
      · rw [(floor_up s t x y hy hst h0).2]
        intro e
        have := sg_abs t (y - x % y)
        rw [e] at this
        simp at this
        omega
    exact ⟨fun e => absurd e this, fun e => absurd e h0⟩

theorem g_zexact1 {A B : Int} {ka kb : Nat} (hB : B ≠ 0) (hr : rm A B ≠ 0) (hk : ka + kb + 9 ≤ 35184372088831) : ∀ w u v, Zv A ka u w → Zv B kb v w → Calls Tryz.prog 98 #[u, v] w (Gives (TWO (IS (.agg #[.bool false, .slice none 0 0])) (IS (.int .i64 20))) w) := by
  rintro w u v ⟨s, p, n, c, xs, rfl, h, rfl, hn⟩ ⟨t, q, m, d, ys, rfl, h', rfl, hm⟩
  have hy := zv_ne (t := t) rfl hB
  have h0 : val xs % val ys ≠ 0 := fun e => hr ((rm_zero hy).2 e)
  have hl : (digs (val xs % val ys)).length ≠ 0 := fun e => h0 ((digs_length_zero _).1 e)
  exact zexact_w1 w s t p q n c m d xs ys h h' hy (by omega) (by omega)

theorem g_zexact2 {A B : Int} {ka kb : Nat} (hB : B ≠ 0) (hr : rm A B = 0) (hk : ka + kb + 9 ≤ 35184372088831) : ∀ w u v, Zv A ka u w → Zv B kb v w → Calls Tryz.prog 98 #[u, v] w (Gives (TWO (ZN (fl A B)) (IS (.int .i64 0))) w) := by
  rintro w u v ⟨s, p, n, c, xs, rfl, h, rfl, hn⟩ ⟨t, q, m, d, ys, rfl, h', rfl, hm⟩
  have hy := zv_ne (t := t) rfl hB
  have h0 : val xs % val ys = 0 := (rm_zero hy).1 hr
  rw [(floor_plain s t (val xs) (val ys) hy (Or.inr h0)).1]
  exact zexact_w2 w s t p q n c m d xs ys h h' hy (by rw [h0]; decide) (by omega)

end Go.Proofs.YtgalppimdmjdcaaGreat

/-
  Rationals in lowest terms: one form for each, how long it is, what sums, products and quotients make.
-/
namespace Go.Proofs.YtgalppimdmjdcaaGreat
open Go Go.RowKit Nt
set_option linter.unusedSimpArgs false
set_option linter.unusedVariables false
set_option maxRecDepth 20000

theorem nR_mul (P : Int) (Y : Nat) : nR P Y * (Y : Int) = P * (dR P Y : Int) := by
  have h1 := g_nR P Y
  have h2 := g_dR P Y
  have h3 : ((Nat.gcd P.natAbs Y : Nat) : Int) * (dR P Y : Int) = (Y : Int) := by rw [← Int.natCast_mul, h2]
  generalize ((Nat.gcd P.natAbs Y : Nat) : Int) = G at h1 h3
  grind
theorem nR_abs (P : Int) (Y : Nat) : (nR P Y).natAbs = P.natAbs / Nat.gcd P.natAbs Y := by unfold nR; rw [sg_abs]
theorem nR_len {P : Int} {Y k : Nat} (h : (digs P.natAbs).length ≤ k) : (digs (nR P Y).natAbs).length ≤ k := by
  rw [nR_abs]
  exact Nat.le_trans (digs_length_mono (Nat.div_le_self _ _)) h
theorem dR_len {P : Int} {Y k : Nat} (h : (digs Y).length ≤ k) : (digs (dR P Y)).length ≤ k := by
  unfold dR
  exact Nat.le_trans (digs_length_mono (Nat.div_le_self _ _)) h
theorem low_cop {P : Int} {Y : Nat} (hY : Y ≠ 0) : Nat.gcd (nR P Y).natAbs (dR P Y) = 1 := by
  rw [nR_abs]
  unfold dR
  have hg : 0 < Nat.gcd P.natAbs Y := Nat.gcd_pos_of_pos_right _ (by omega)
  exact Nat.gcd_div_gcd_div_gcd_of_pos_right (by omega)
theorem cross_eq {a b a' b' : Nat} (h : a * b' = a' * b) (c : Nat.gcd a b = 1) (c' : Nat.gcd a' b' = 1) (hb : b ≠ 0) : b = b' := by
  have h1 : b ∣ a * b' := ⟨a', by rw [h, Nat.mul_comm]⟩
  have h2 : b ∣ b' := Nat.Coprime.dvd_of_dvd_mul_left (Nat.Coprime.symm c) h1
  have h3 : b' ∣ a' * b := ⟨a, by rw [← h, Nat.mul_comm]⟩
  have h4 : b' ∣ b := Nat.Coprime.dvd_of_dvd_mul_left (Nat.Coprime.symm c') h3
  exact Nat.dvd_antisymm h2 h4
/-- One form for each rational. -/
theorem low_one {P P' : Int} {Y Y' : Nat} (hY : Y ≠ 0) (hY' : Y' ≠ 0) (h : P * (Y' : Int) = P' * (Y : Int)) : nR P Y = nR P' Y' ∧ dR P Y = dR P' Y' := by
  have e1 := nR_mul P Y
  have e2 := nR_mul P' Y'
  have hy : (Y : Int) ≠ 0 := by omega
  have hy' : (Y' : Int) ≠ 0 := by omega
  have k : nR P Y * (dR P' Y' : Int) = nR P' Y' * (dR P Y : Int) := by
    have : ((Y : Int) * (Y' : Int)) * (nR P Y * (dR P' Y' : Int)) = ((Y : Int) * (Y' : Int)) * (nR P' Y' * (dR P Y : Int)) := by
      generalize nR P Y = n at *
      generalize nR P' Y' = n' at *
      generalize (dR P Y : Int) = d at *
      generalize (dR P' Y' : Int) = d' at *
      by_cases hP : P = 0
      · have h0 : P' = 0 := by
          rw [hP, Int.zero_mul] at h
          rcases Int.mul_eq_zero.1 h.symm with h | h
          · exact h
          · exact absurd h hy
        have n0 : n = 0 := by
          rw [hP, Int.zero_mul] at e1
          rcases Int.mul_eq_zero.1 e1 with h | h
          · exact h
          · exact absurd h hy
        have n0' : n' = 0 := by
          rw [h0, Int.zero_mul] at e2
          rcases Int.mul_eq_zero.1 e2 with h | h
          · exact h
          · exact absurd h hy'
        rw [n0, n0']
        simp
      · have : P * ((Y : Int) * (Y' : Int) * (n * d')) = P * ((Y : Int) * (Y' : Int) * (n' * d)) := by grind
        exact Int.eq_of_mul_eq_mul_left hP this
    exact Int.eq_of_mul_eq_mul_left (Int.mul_ne_zero hy hy') this
  have ka : (nR P Y).natAbs * dR P' Y' = (nR P' Y').natAbs * dR P Y := by
    have := congrArg Int.natAbs k
    simpa [Int.natAbs_mul] using this
  have hd := cross_eq ka (low_cop hY) (low_cop hY') (dR_ne hY)
  refine ⟨?_, hd⟩
  rw [hd] at k
  exact Int.eq_of_mul_eq_mul_right (by have := dR_ne (X := P') hY'; omega) k
theorem low_num {P P' : Int} {Y Y' : Nat} (hY : Y ≠ 0) (hY' : Y' ≠ 0) (h : P * (Y' : Int) = P' * (Y : Int)) : RN (nR P Y) (dR P Y) = RN (nR P' Y') (dR P' Y') := by
  obtain ⟨h1, h2⟩ := low_one hY hY' h
  rw [h1, h2]
theorem run_gtr_int_d (ρ : Operand → Value) (o : Oper) (x y : Operand) (w : World) (a b : Int) (h1 : ρ x = .int .i64 a) (h2 : ρ y = .int .i64 b) : (execOp ρ { o with op := .binOp .gtr 3 x y 3 }).run Tryz.prog w = .ok (.value (.bool (decide (b < a)))) w := by
  by_cases h : b < a
  · rw [decide_eq_true h]
    unfold execOp
    go_simp
  · rw [decide_eq_false h]
    have h' : a ≤ b := by omega
    clear h
    unfold execOp
    go_simp
end Go.Proofs.YtgalppimdmjdcaaGreat

/-
  rat.Add, Sub, Floor, Near; the document's Valid; what the laws ask of rationals.
-/
namespace Go.Proofs.YtgalppimdmjdcaaGreat
open Go Go.RowKit Nt
set_option linter.unusedSimpArgs false
set_option linter.unusedVariables false
set_option maxRecDepth 20000

set_option maxHeartbeats 400000 in
theorem rvalid_w (w : World) (A D : Int) (k1 k2 : Nat) (u : Value) (h : Rv A D k1 k2 u w) (hk1 : k1 ≤ 8388608) (hk2 : k2 ≤ 8388608) :
    Calls Tryz.prog 30 #[u] w (Gives (IS (.bool (decide (0 < D.sign)))) w) := by
  refine calls_sta (sl := [(0, (PR (Zv A k1) (Zv D k2)))]) Tryz.func30 rfl Tryz.ntmps30 (by simp) (args_cons rfl (rv_has h) args_nil) ?_
  intro a0 S0
  refine wp_stmt_seq [.new (.box 29 (PR (Zv A k1) (Zv D k2))), kF] [.inl 0] [.inl 1] follows S0 rfl (by kernel_rfl) ?_ ?_
  · refine ⟨⟨trivial, ?_⟩, ?_⟩
    · exact owe_box rfl wA rfl (oS 0 0) rfl (fun ρ w h => box_rat (shp_pr shp_zv shp_zv) ρ _ _ w h)
    · exact mC
  intro B1 a1 W1 (S1 : Sta w 7 [(1, (.box 29 (PR (Zv A k1) (Zv D k2))))] [(2, bF)] _ _ _)
  refine wp_stmt_seq [.val (Part a1 1 2), .val (Zv D k2), .val (iV ((D).sign)), .val (Is (.bool (decide (0 < D.sign)))), .val (Is (.bool (decide (0 < D.sign))))] [.inr 0] [.inl 4] follows S1 rfl (by kernel_rfl) ?_ ?_
  · refine ⟨⟨⟨⟨⟨trivial, ?_⟩, ?_⟩, ?_⟩, ?_⟩, ?_⟩
    · exact owe_part rfl wA rfl (k := 0) rfl (by kernel_rfl) rfl (fun ρ w b h => part_rat1 ρ _ _ w b 0 h)
    · exact owe_pload rfl wA rfl (oO 0 3) (k := 0) rfl (by kernel_rfl) rfl (fun ρ w b u h1 h2 h3 => pload_den ρ _ _ w b u h1 h2 h3)
    · exact cc1 wA (qO 1 4 rfl) (fresh_is _) (fun w u h1 => g_rsign (by omega) w u ((fun _ _ h => h) _ _ h1))
    · exact owe_bin rfl wA rfl (oO 2 5) (opnd_const _) rfl (fun ρ w h1 h2 => by exact run_gtr_int_d ρ _ _ _ w _ _ h1 h2)
    · exact mO 3 6
  intro B2 a2 W2 (S2 : Sta w 7 [(1, (.box 29 (PR (Zv A k1) (Zv D k2))))] [(2, Is (.bool (decide (0 < D.sign))))] _ _ _)
  refine wp_ret ?_
  exact end_one S2 rfl (res_tmp S2 0 2 rfl)

theorem g_rvalid {A D : Int} {k1 k2 : Nat} (hk1 : k1 ≤ 8388608) (hk2 : k2 ≤ 8388608) : ∀ w u, Rv A D k1 k2 u w → Calls Tryz.prog 30 #[u] w (Gives (IS (.bool (decide (0 < D.sign)))) w) := fun w u h => rvalid_w w A D k1 k2 u h hk1 hk2

theorem len_mul {a b k l : Nat} (h : (digs a).length ≤ k) (h' : (digs b).length ≤ l) : (digs (a * b)).length ≤ k + l := digs_mul_len h h'
theorem adN_len {A N : Int} {D M k l : Nat} (hA : (digs A.natAbs).length ≤ k) (hD : (digs D).length ≤ k) (hN : (digs N.natAbs).length ≤ l) (hM : (digs M).length ≤ l) : (digs (adN A N D M).natAbs).length ≤ k + l + 1 := by
  unfold adN
  refine dl_add (dl_mul hA (by rw [Int.natAbs_natCast]; exact hM)) ?_
  rw [Nat.add_comm k l]
  exact dl_mul hN (by rw [Int.natAbs_natCast]; exact hD)
theorem pos_of_sign {D : Int} (h : decide (0 < D.sign) = true) : ∃ d : Nat, D = (d : Int) ∧ d ≠ 0 := by
  have h1 : 0 < D.sign := of_decide_eq_true h
  have h2 : 0 < D := by
    rcases Int.lt_trichotomy D 0 with h | h | h
    · rw [Int.sign_eq_neg_one_of_neg h] at h1; omega
    · rw [h] at h1; exact absurd h1 (by decide)
    · exact h
  exact ⟨D.toNat, by omega, by omega⟩
/-- What is said of a fraction and its lowest terms. -/
theorem fr {P : Int} {Y : Nat} {n : Int} {d : Nat} (e1 : nR P Y = n) (e2 : dR P Y = d) : n * (Y : Int) = P * (d : Int) := by rw [← e1, ← e2]; exact nR_mul P Y
theorem low_eq {P P' : Int} {Y Y' : Nat} {n : Int} {d : Nat} (hY : Y ≠ 0) (hY' : Y' ≠ 0) (h : P * (Y' : Int) = P' * (Y : Int)) (e1 : nR P' Y' = n) (e2 : dR P' Y' = d) : RN (nR P Y) (dR P Y) = RN n d := by
  rw [low_num hY hY' h, e1, e2]
theorem rv_in {w : World} {s t : Bool} {p q : Option Addr} {n c m d : Nat} {xs ys : List Nat} (h : Sl w p n c xs) (h' : Sl w q m d ys) : Rv (sg s (val xs)) (sg t (val ys)) n m (.agg #[.bool s, .slice p n c, .bool t, .slice q m d]) w := ⟨_, _, _, _, rfl, ⟨s, p, n, c, xs, rfl, h, rfl, Nat.le_refl _⟩, ⟨t, q, m, d, ys, rfl, h', rfl, Nat.le_refl _⟩⟩

end Go.Proofs.YtgalppimdmjdcaaGreat

/-
  More of the document's rationals and of the laws' questions, in the form that the logic of statements takes.
-/
namespace Go.Proofs.YtgalppimdmjdcaaGreat
open Go Go.RowKit Nt
set_option linter.unusedSimpArgs false
set_option linter.unusedVariables false
set_option maxRecDepth 20000

theorem g_rmake {A : Int} {D k k' : Nat} (hD : D ≠ 0) (hk : k ≤ 67108864) (hk' : k' ≤ 67108864) : ∀ w u v, Zv A k u w → Zv (D : Int) k' v w → Calls Tryz.prog 45 #[u, v] w (Gives (RN (nR A D) (dR A D)) w) := by
  rintro w u v ⟨s, p, n, c, xs, rfl, h, rfl, hn⟩ ⟨t, q, m, d, ys, rfl, h', eD, hm⟩
  obtain ⟨rfl, rfl⟩ := zv_pos eD hD
  rw [nR_sg, dR_sg]
  exact rt_gives (rmake_c w s p q n c m d xs ys h h' hD (by omega) (by omega))
theorem nR_neg (A : Int) (D : Nat) : nR (-A) D = - nR A D := by
  unfold nR
  rw [Int.natAbs_neg]
  by_cases h0 : A = 0
  · subst h0; simp [sg]
  · have e : ng (-A) = !(ng A) := by
      unfold ng
      rcases Int.lt_or_gt_of_ne h0 with h | h
      · rw [decide_eq_false (by omega), decide_eq_true h]; rfl
      · rw [decide_eq_true (by omega), decide_eq_false (by omega)]; rfl
    rw [e, sg_not]
theorem dR_neg (A : Int) (D : Nat) : dR (-A) D = dR A D := by unfold dR; rw [Int.natAbs_neg]
theorem g_rrneg {A : Int} {D k k' : Nat} (hD : D ≠ 0) (hk : k ≤ 67108864) (hk' : k' ≤ 67108864) : ∀ w u, Rv A (D : Int) k k' u w → Calls Tryz.prog 110 #[u] w (Gives (RN (nR (-A) D) (dR (-A) D)) w) := by
  rintro w u ⟨x0, x1, y0, y1, rfl, ⟨s, p, n, c, xs, ea, h, rfl, hn⟩, ⟨t, q, m, d, ys, eb, h', eD, hm⟩⟩
  simp at ea eb
  obtain ⟨rfl, rfl⟩ := ea
  obtain ⟨rfl, rfl⟩ := eb
  obtain ⟨rfl, rfl⟩ := zv_pos eD hD
  have := rt_gives (rneg_c w s p q n c m d xs ys h h' hD (by omega) (by omega))
  first
    | exact this
    | (refine Gives.cast this ?_
       rw [← sg_not, nR_sg, dR_sg])
theorem g_rofr {A : Int} {k : Nat} (hk : k ≤ 67108864) : ∀ w u, Zv A k u w → Calls Tryz.prog 42 #[u] w (Gives (RN A 1) w) := by
  rintro w u ⟨s, p, n, c, xs, rfl, h, rfl, hn⟩
  exact rt_gives (rof_c w s p n c xs h (by omega))
theorem g_rone : ∀ w, Calls Tryz.prog 77 #[] w (Gives (ZN 1) w) := fun w => by
  refine (rone_c w).mono ?_
  rintro e w' ⟨r, cr, rfl, Z⟩
  exact za_gives Z
/-! Rounded. -/
theorem fl_scale {P : Int} {G D : Nat} (hG : G ≠ 0) (hD : D ≠ 0) : fl ((G : Int) * P) ((G * D : Nat) : Int) = fl P (D : Int) := by
  have iD : (D : Int) ≠ 0 := by omega
  obtain ⟨e, h1, _⟩ := rm_bounds (A := P) iD
  have h1 := h1 (by omega)
  obtain ⟨r, hr⟩ : ∃ r, rm P (D : Int) = r := ⟨_, rfl⟩
  obtain ⟨q, hq⟩ : ∃ q, fl P (D : Int) = q := ⟨_, rfl⟩
  rw [hr] at h1
  rw [hq, hr] at e
  rw [hq]
  have gp : (0 : Int) < (G : Int) := by omega
  have m1 : (G : Int) * r < (G : Int) * (D : Int) := Int.mul_lt_mul_of_pos_left h1.2 gp
  have m0 : 0 ≤ (G : Int) * r := Int.mul_nonneg (by omega) h1.1
  have mD : 0 < (G : Int) * (D : Int) := Int.mul_pos gp (by omega)
  refine (fl_unique (r := (G : Int) * r) ?_ ?_ (fun hp => ?_) (fun hp => ?_)).1
  · rw [Int.natCast_mul]; omega
  · rw [Int.natCast_mul, e]; grind
  · rw [Int.natCast_mul]; omega
  · rw [Int.natCast_mul] at hp; omega
theorem fl_low {P : Int} {Y : Nat} (hY : Y ≠ 0) : fl (nR P Y) (dR P Y : Int) = fl P (Y : Int) := by
  have hg : Nat.gcd P.natAbs Y ≠ 0 := fun e => hY (Nat.eq_zero_of_gcd_eq_zero_right e)
  have := fl_scale (P := nR P Y) hg (dR_ne (X := P) hY)
  rw [g_nR, g_dR] at this
  exact this.symm
theorem low_twice {P : Int} {Y : Nat} (hY : Y ≠ 0) : nR (nR P Y) (dR P Y) = nR P Y ∧ dR (nR P Y) (dR P Y) = dR P Y := low_one (dR_ne hY) hY (nR_mul P Y)
end Go.Proofs.YtgalppimdmjdcaaGreat
