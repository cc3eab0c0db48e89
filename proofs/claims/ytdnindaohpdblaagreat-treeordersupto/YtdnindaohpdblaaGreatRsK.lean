import Derived.Test.YtdnindaohpdblaaGreatSetR
import Derived.Test.YtdnindaohpdblaaGreatRsJ
import Derived.Test.YtdnindaohpdblaaGreatSetG
set_option linter.all false
namespace Go.Proofs.YtdnindaohpdblaaGreat
open Go Go.RowKit Nt
set_option maxRecDepth 20000
set_option maxHeartbeats 16000000
theorem yk3 {lo : Nat} : ∀ v w, IS (.agg #[.bool false, .slice none 0 0]) lo v w → ZN 0 lo v w := fun v w e => ⟨none, 0, e, Sl.none w, fun b o h => nomatch h⟩
def PR (φ ψ : Pr) : Pr := fun v w => ∃ x0 x1 y0 y1, v = .agg #[x0, x1, y0, y1] ∧ φ (.agg #[x0, x1]) w ∧ ψ (.agg #[y0, y1]) w
def PRF (φ ψ : Nat → Pr) : Nat → Pr := fun lo => PR (φ lo) (ψ lo)
def RN (N : Int) (D : Nat) : Nat → Pr := PRF (ZN N) (ZN (D : Int))
theorem yfw {φ ψ : Nat → Pr} (h : Fresh φ) (h' : Fresh ψ) : Fresh (PRF φ ψ) :=
 ⟨fun lo lo' v w hl ⟨x0, x1, y0, y1, e, a, b⟩ => ⟨x0, x1, y0, y1, e, h.mono _ _ _ _ hl a, h'.mono _ _ _ _ hl b⟩, fun lo v w w' B hB ⟨x0, x1, y0, y1, e, a, b⟩ ev => ⟨x0, x1, y0, y1, e, h.ev _ _ _ _ B hB a ev, h'.ev _ _ _ _ B hB b ev⟩⟩
theorem ybx (N : Int) (D : Nat) : Fresh (RN N D) := yfw (yaf _) (yaf _)
theorem yl2 {φ ψ φ' ψ' : Pr} (h : ∀ v w, φ v w → φ' v w) (h' : ∀ v w, ψ v w → ψ' v w) : ∀ v w, PR φ ψ v w → PR φ' ψ' v w :=
 fun v w ⟨x0, x1, y0, y1, e, a, b⟩ => ⟨x0, x1, y0, y1, e, h _ _ a, h' _ _ b⟩
theorem yw2 {A : Int} {k : Nat} {u : Value} {w : World} (h : Zv A k u w) : Has (fun _ => False) w (Zv A k) u := fun w' e => by
 obtain ⟨s, p, n, c, xs, rfl, hs, hA, hn⟩ := h
 exact ⟨s, p, n, c, xs, rfl, yme hs (fun _ _ _ _ h => h) e, hA, hn⟩
theorem zaz {φ ψ : Pr} {u : Value} {w : World} (h : PR φ ψ u w) (h1 : ∀ v, φ v w → Has (fun _ => False) w φ v) (h2 : ∀ v, ψ v w → Has (fun _ => False) w ψ v) : Has (fun _ => False) w (PR φ ψ) u := fun w' e => by
 obtain ⟨x0, x1, y0, y1, rfl, a, b⟩ := h
 exact ⟨x0, x1, y0, y1, rfl, h1 _ a w' e, h2 _ b w' e⟩
abbrev Rv (A : Int) (D : Int) (k k' : Nat) : Pr := PR (Zv A k) (Zv D k')
theorem yoy {A D : Int} {k k' : Nat} {u : Value} {w : World} (h : Rv A D k k' u w) : Has (fun _ => False) w (Rv A D k k') u := zaz h (fun _ => yw2) (fun _ => yw2)
theorem yga {N : Int} {D lo k k' : Nat} (h : (digs N.natAbs).length ≤ k) (h' : (digs D).length ≤ k') : ∀ v w, RN N D lo v w → Rv N (D : Int) k k' v w :=
 yl2 (ya0 h) (ya0 (by rw [zd0]; exact h'))
theorem ytk {A : Int} {k k' : Nat} (hk : k ≤ k') : ∀ v w, Zv A k v w → Zv A k' v w := fun v w ⟨s, p, n, c, xs, e, h, hA, hn⟩ => ⟨s, p, n, c, xs, e, h, hA, zdf hn hk⟩
theorem ytc : ∀ v w, Is (.agg #[.bool false, .slice none 0 0]) v w → Zv 0 0 v w := fun v w e => ⟨false, none, 0, 0, [], e, Sl.none w, rfl, zde _⟩
theorem yja {x0 x1 : Value} {φ : Pr} {w : World} (h : Shp 2 φ) (hφ : φ (.agg #[x0, x1]) w) : x0.oneCell' = true ∧ x1.oneCell' = true := by
 obtain ⟨cs, e, _, h1⟩ := h _ w hφ
 simp only [Value.agg.injEq] at e
 subst e
 simpa using h1
theorem yay {φ ψ : Pr} (h : Shp 2 φ) (h' : Shp 2 ψ) : Shp 4 (PR φ ψ) := fun u w ⟨x0, x1, y0, y1, e, a, b⟩ => by
 have h1 := yja h a
 have h2 := yja h' b
 exact ⟨_, e, rfl, by simp [h1, h2]⟩
theorem yd7 : Shp 4 zR := fun u w e => ⟨_, e, rfl, by simp [Value.oneCell']⟩
theorem yas : Strct 26 4 := ⟨⟨_, Tryz.underlying26, rfl⟩, by kernel_rfl⟩
theorem yjd {φ : Pr} (h : Shp 4 φ) {u : Value} {w : World} (hφ : φ u w) : ∃ x y z v, u = .agg #[x, y, z, v] := by
 obtain ⟨cs, rfl, hn, _⟩ := h u w hφ
 obtain ⟨l⟩ := cs
 match l, hn with
 | [x, y, z, v], _ => exact ⟨x, y, z, v, rfl⟩
theorem yb4 (ρ : Operand → Value) (o : Oper) (w : World) : (execOp ρ { o with op := .alloc 26 }).run Tryz.prog w = .ok (.value (.pointer (some ⟨w.heap.size, 0, none⟩))) (w.alloc (.cells (Value.agg #[.bool false, .slice none 0 0, .bool false, .slice none 0 0]).cells 26 (0, 0))) := by
 unfold execOp
 go_simp
theorem ydg {φ : Pr} (h : Shp 4 φ) (ρ : Operand → Value) (o : Oper) (x : Operand) (w : World) (hφ : φ (ρ x) w) : (execOp ρ { o with op := .box 26 x }).run Tryz.prog w = .ok (.value (.pointer (some ⟨w.heap.size, 0, none⟩))) (w.alloc (.cells (ρ x).cells 26 (0, 0))) := by
 obtain ⟨y, z, u, v, e⟩ := yjd h hφ
 clear hφ h
 rw [e]
 unfold execOp
 go_simp
theorem ycx (ρ : Operand → Value) (o : Oper) (x : Operand) (w : World) (b f : Nat) (h : ρ x = .pointer (some ⟨b, f, none⟩)) : (execOp ρ { o with op := .fieldAddr 26 x 0 }).run Tryz.prog w = .ok (.value (.pointer (some ⟨b, f, none⟩))) w := by
 unfold execOp
 go_simp
theorem yco (ρ : Operand → Value) (o : Oper) (x : Operand) (w : World) (b f : Nat) (h : ρ x = .pointer (some ⟨b, f, none⟩)) : (execOp ρ { o with op := .fieldAddr 26 x 1 }).run Tryz.prog w = .ok (.value (.pointer (some ⟨b, f + 2, none⟩))) w := by
 unfold execOp
 go_simp
theorem yj6 {ρ : Operand → Value} {o : Oper} {x : Operand} {w : World} {b off : Nat} {x0 x1 : Value} (hx : ρ x = .pointer (some ⟨b, off, none⟩)) (h0 : w.cell? ⟨b, off, none⟩ = some x0) (h1 : w.cell? ⟨b, off + 1, none⟩ = some x1) :
  (execOp ρ { o with op := .load 24 x }).run Tryz.prog w = .ok (.value (.agg #[x0, x1])) w := by
 obtain ⟨⟨d, hu, hd⟩, hi⟩ := yab
 unfold execOp
 simp only [hx, Sem.run_bind, run_loadAt_mid (P := Tryz.prog) w b off 24 [x0, x1] d (fun j v hv => by
  match j, hv with
  | 0, hv => simp only [zev, Option.some.injEq] at hv; subst hv; exact h0
  | 1, hv => simp only [zfq, zev, Option.some.injEq] at hv; subst hv; exact h1
  | j + 2, hv => simp at hv) hu hd (by rw [hi]; rfl), Result.andThen_ok, Sem.run_pure]
theorem yax {w : World} {b i : Nat} {cs : Array Value} {T : TypeId} (h : w.heap[b]? = some (.cells cs T (0, 0))) : w.cell? ⟨b, i, none⟩ = cs[i]? := by simp [World.cell?, h]
theorem yde {φ ψ : Pr} (ρ : Operand → Value) (o : Oper) (x : Operand) (w : World) (b : Nat) (u : Value) (hφ : PR φ ψ u w) (hx : ρ x = .pointer (some ⟨b, 0, none⟩)) (hb : w.heap[b]? = some (.cells u.cells 26 (0, 0))) :
  ∃ v, (execOp ρ { o with op := .load 24 x }).run Tryz.prog w = .ok (.value v) w ∧ ∀ w', PR φ ψ u w' → φ v w' := by
 obtain ⟨x0, x1, y0, y1, rfl, a, b'⟩ := hφ
 refine ⟨.agg #[x0, x1], yj6 hx ((yax hb).trans rfl) ((yax hb).trans rfl), fun w' h' => ?_⟩
 obtain ⟨a0, a1, b0, b1, e, ha, _⟩ := h'
 simp at e
 rw [e.1, e.2.1]
 exact ha
theorem ycp {φ ψ : Pr} (ρ : Operand → Value) (o : Oper) (x : Operand) (w : World) (b : Nat) (u : Value) (hφ : PR φ ψ u w) (hx : ρ x = .pointer (some ⟨b, 2, none⟩)) (hb : w.heap[b]? = some (.cells u.cells 26 (0, 0))) :
  ∃ v, (execOp ρ { o with op := .load 24 x }).run Tryz.prog w = .ok (.value v) w ∧ ∀ w', PR φ ψ u w' → ψ v w' := by
 obtain ⟨x0, x1, y0, y1, rfl, a, b'⟩ := hφ
 refine ⟨.agg #[y0, y1], yj6 hx ((yax hb).trans rfl) ((yax hb).trans rfl), fun w' h' => ?_⟩
 obtain ⟨a0, a1, b0, b1, e, _, ha⟩ := h'
 simp at e
 rw [e.2.2.1, e.2.2.2]
 exact ha
section
variable {ops : Array Oper} {l : List Kd} {bx : Bxs} {sl : List (Tmp × Pr)} {i : Nat} {o : Oper} {Q : Exit → Act → World → Prop} {a0 : Act} {n : Nat} {w0 : World}
theorem yi6 {x y : Operand} {φ ψ : Pr} (ho : ops[i]? = some o) (hw : Wants ops l bx sl i o) (hop : o.op = .build 26 #[(0, x), (1, y)]) (hx : Opnd ops l bx sl i x φ) (hy : Opnd ops l bx sl i y ψ) (hφ : Shp 2 φ) (hψ : Shp 2 ψ) (hk : kdAt l i = .val (PR φ ψ)) : Owed Tryz.prog ops Q l bx sl a0 n w0 i :=
 ybw ho hw hk fun vs B a w c => by
  have h1 := hx a0 n w0 vs B a w c
  have h2 := hy a0 n w0 vs B a w c
  obtain ⟨x0, x1, e1⟩ := ygp hφ h1.now
  obtain ⟨y0, y1, e2⟩ := ygp hψ h2.now
  refine ⟨.agg #[x0, x1, y0, y1], ?_, fun w' e' => ⟨x0, x1, y0, y1, rfl, e1 ▸ h1 w' e', e2 ▸ h2 w' e'⟩⟩
  unfold execOp
  rw [hop]
  clear h1 h2 hx hy
  generalize a.eval = ρ at e1 e2
  go_simp
def RL1 (φ : Pr) (lo : Nat) : Pr := fun v w => ∃ g x0 x1 y0 y1, v = .slice (some ⟨g, 0, none⟩) 1 1 ∧ lo ≤ g ∧ w.heap[g]? = some (.cells #[x0, x1, y0, y1] 26 (0, 0)) ∧ φ (.agg #[x0, x1, y0, y1]) w
theorem yyb {x : Operand} {φ : Pr} (ho : ops[i]? = some o) (hw : Wants ops l bx sl i o) (hop : o.op = .buildSlice 39 1 #[(0, x)]) (hx : Opnd ops l bx sl i x φ) (hφ : Shp 4 φ) (hk : kdAt l i = .val (RL1 φ w0.heap.size)) : Owed Tryz.prog ops Q l bx sl a0 n w0 i :=
 yel ho hw hk fun vs B a w c => by
  have h1 := hx a0 n w0 vs B a w c
  obtain ⟨x0, x1, y0, y1, e1⟩ := yjd hφ h1.now
  have hb : Below w.heap.size w (w.alloc (.cells #[x0, x1, y0, y1] 26)) := (Below.refl _ _).alloc (zde _) _
  refine ⟨.slice (some ⟨w.heap.size, 0, none⟩) 1 1, w.alloc (.cells #[x0, x1, y0, y1] 26), ?_, hb, fun w' e' => ⟨w.heap.size, x0, x1, y0, y1, rfl, c.lo, ?_, ?_⟩⟩
  ·unfold execOp
   rw [hop]
   clear h1 hx
   generalize a.eval = ρ at e1
   go_simp
  ·exact (e'.block w.heap.size (by simp) (fun hB => by have := (c.bnd _ hB).2; omega)).trans (heap_alloc_last _ _)
  ·rw [← e1]
   exact h1 w' ((Ev.of_below hb).back (fun _ _ h => h) e')
end
theorem yg5 {t : Bool} {ys : List Nat} {D : Nat} (e : sg t (val ys) = (D : Int)) (hD : D ≠ 0) : t = false ∧ val ys = D := by
 cases t
 ·simp only [sg, zf1, if_false] at e
  exact ⟨rfl, by omega⟩
 ·simp only [sg, if_true] at e
  omega
theorem ygb {w : World} {A : Int} {D k k' f : Nat} {args : Array Value} (h : Calls Tryz.prog f args w (Rt w A D k k')) : CG f args w (RN A D) := by
 refine h.mono ?_
 rintro e w' ⟨b1, L1, D1, r1, k1, L2, r2, k2, rfl, hb, s1, s2, hN, hL1, hL2, f1, f2⟩
 have hl := s2.out.len
 refine ⟨_, rfl, hb, _, _, _, _, rfl, yui hN.out s1.out f1.out, yui ⟨?_, ?_, ?_⟩ s2.out f2.out⟩
 ·unfold ng; simp
 ·rw [zd0]
 ·exact hl
theorem yz6 {A : Int} {k : Nat} (hk : k ≤ 70368744177664) : ∀ w u, Zv A k u w → CG 73 #[u] w (ZN (-A)) := by
 rintro w u ⟨s, p, n, c, xs, rfl, h, rfl, hn⟩
 refine (zb7 w s p n c xs h (by omega)).mono ?_
 rintro e w' ⟨r, cr, rfl, Z⟩
 exact yeq Z
theorem yz7 {A : Int} {k : Nat} (hk : k ≤ 70368744177664) : ∀ w u, Zv A k u w → CG 43 #[u] w (IS (.int .i64 A.sign)) := by
 rintro w u ⟨s, p, n, c, xs, rfl, h, rfl, hn⟩
 refine (yfo w s p n c xs h (by omega)).mono ?_
 rintro e w' ⟨rfl, hb⟩
 exact ⟨_, rfl, hb, rfl⟩
theorem ymz {A : Int} {k : Nat} (hk : k ≤ 67108864) : ∀ w u, Zv A k u w → CG 55 #[u] w (RN A 1) := by
 rintro w u ⟨s, p, n, c, xs, rfl, h, rfl, hn⟩
 exact ygb (yyi w s p n c xs h (by omega))
theorem yt6 {A D : Int} {k k' lo : Nat} (hk : k' ≤ 67108864) : ∀ w u, RL1 (Rv A D k k') lo u w → CG 75 #[u] w (IS (.bool (decide (0 < D.sign)))) := by
 rintro w u ⟨g, x0, x1, y0, y1, rfl, _, hg, a0, a1, b0, b1, e, ⟨s, p, n, c, xs, ea, h, rfl, hn⟩, ⟨t, q, m, d, ys, eb, h', rfl, hm⟩⟩
 simp at e ea eb
 obtain ⟨rfl, rfl, rfl, rfl⟩ := e
 obtain ⟨rfl, rfl⟩ := ea
 obtain ⟨rfl, rfl⟩ := eb
 refine (mayBe1 w g s p n c t q m d ys hg h' (by omega) _ rfl).mono ?_
 rintro e w' ⟨rfl, hb⟩
 exact ⟨_, rfl, hb, rfl⟩
theorem yyl {φ φ' : Pr} {lo : Nat} (h : ∀ v w, φ v w → φ' v w) : ∀ v w, RL1 φ lo v w → RL1 φ' lo v w := fun v w ⟨g, x0, x1, y0, y1, e, hl, hg, a⟩ => ⟨g, x0, x1, y0, y1, e, hl, hg, h _ _ a⟩
theorem yn5 {A N : Int} {D M k1 k2 k3 k4 : Nat} (hD : D ≠ 0) (hM : M ≠ 0) (b1 : k1 ≤ 8388608) (b2 : k2 ≤ 8388608) (b3 : k3 ≤ 8388608) (b4 : k4 ≤ 8388608) : ∀ w u v, Rv A (D : Int) k1 k2 u w → Rv N (M : Int) k3 k4 v w → CG 40 #[u, v] w (TWO (IS (.int .i64 (A * (M : Int) - N * (D : Int)).sign)) (IS (.int .i64 0))) := by
 rintro w u v ⟨x0, x1, y0, y1, rfl, ⟨s, p, n, c, xs, ea, h, rfl, hn⟩, ⟨t, q, m, d, ys, eb, h', eD, hm⟩⟩ ⟨z0, z1, u0, u1, rfl, ⟨s', p', n', c', xs', ea', h2, rfl, hn'⟩, ⟨t', q', m', d', ys', eb', h2', eM, hm'⟩⟩
 simp at ea eb ea' eb'
 obtain ⟨rfl, rfl⟩ := ea
 obtain ⟨rfl, rfl⟩ := eb
 obtain ⟨rfl, rfl⟩ := ea'
 obtain ⟨rfl, rfl⟩ := eb'
 obtain ⟨rfl, rfl⟩ := yg5 eD hD
 obtain ⟨rfl, rfl⟩ := yg5 eM hM
 refine (yr3 w s p n c xs q m d s' p' n' c' xs' q' m' d' ys ys' h h2 h' h2' hD hM (by omega) (by omega) (by omega) (by omega)).mono ?_
 rintro e w' ⟨rfl, hb⟩
 exact ⟨_, rfl, hb, _, _, rfl, rfl, rfl⟩
theorem yxr {A N : Int} {D M k1 k2 k3 k4 : Nat} (hD : D ≠ 0) (hM : M ≠ 0) (b1 : k1 ≤ 8388608) (b2 : k2 ≤ 8388608) (b3 : k3 ≤ 8388608) (b4 : k4 ≤ 8388608) : ∀ w u v, Rv A (D : Int) k1 k2 u w → Rv N (M : Int) k3 k4 v w → CG 22 #[u, v] w (RN (nR (A * (dR (-N) M : Nat) + nR (-N) M * (D : Int)) (D * dR (-N) M)) (dR (A * (dR (-N) M : Nat) + nR (-N) M * (D : Int)) (D * dR (-N) M))) := by
 rintro w u v ⟨x0, x1, y0, y1, rfl, ⟨s, p, n, c, xs, ea, h, rfl, hn⟩, ⟨t, q, m, d, ys, eb, h', eD, hm⟩⟩ ⟨z0, z1, u0, u1, rfl, ⟨s', p', n', c', xs', ea', h2, rfl, hn'⟩, ⟨t', q', m', d', ys', eb', h2', eM, hm'⟩⟩
 simp at ea eb ea' eb'
 obtain ⟨rfl, rfl⟩ := ea
 obtain ⟨rfl, rfl⟩ := eb
 obtain ⟨rfl, rfl⟩ := ea'
 obtain ⟨rfl, rfl⟩ := eb'
 obtain ⟨rfl, rfl⟩ := yg5 eD hD
 obtain ⟨rfl, rfl⟩ := yg5 eM hM
 exact ygb (ysh w s p n c xs q m d ys s' p' n' c' xs' q' m' d' ys' h h' h2 h2' hD hM _ _ rfl rfl (by omega) (by omega) (by omega) (by omega))

section
variable {ops : Array Oper} {l : List Kd} {bx : Bxs} {sl : List (Tmp × Pr)} {i : Nat} {o : Oper} {Q : Exit → Act → World → Prop} {a0 : Act} {n : Nat} {w0 : World}
end
theorem yur {D : Nat} (h : D ≠ 0) : (D : Int).sign = 1 := zd9 (by omega)
theorem yiz (P : Int) (Y : Nat) : nR P Y * (Y : Int) = P * (dR P Y : Int) := by
 have h1 := g_nR P Y
 have h2 := g_dR P Y
 have h3 : ((Nat.gcd P.natAbs Y : Nat) : Int) * (dR P Y : Int) = (Y : Int) := by rw [← zd2, h2]
 generalize ((Nat.gcd P.natAbs Y : Nat) : Int) = G at h1 h3
 grind
theorem yv5 (P : Int) (Y : Nat) : (nR P Y).natAbs = P.natAbs / Nat.gcd P.natAbs Y := by unfold nR; rw [sg_abs]
theorem yoe {P : Int} {Y k : Nat} (h : (digs P.natAbs).length ≤ k) : (digs (nR P Y).natAbs).length ≤ k := by
 rw [yv5]
 exact zdf (yag (zef _ _)) h
theorem ynw {P : Int} {Y k : Nat} (h : (digs Y).length ≤ k) : (digs (dR P Y)).length ≤ k := by
 unfold dR
 exact zdf (yag (zef _ _)) h
theorem yrf {P : Int} {Y : Nat} (hY : Y ≠ 0) : Nat.gcd (nR P Y).natAbs (dR P Y) = 1 := by
 rw [yv5]
 unfold dR
 have hg : 0 < Nat.gcd P.natAbs Y := zge _ (by omega)
 exact Nat.gcd_div_gcd_div_gcd_of_pos_right (by omega)
theorem ytx {a b a' b' : Nat} (h : a * b' = a' * b) (c : Nat.gcd a b = 1) (c' : Nat.gcd a' b' = 1) (hb : b ≠ 0) : b = b' := by
 have h1 : b ∣ a * b' := ⟨a', by rw [h, zdg]⟩
 have h2 : b ∣ b' := Nat.Coprime.dvd_of_dvd_mul_left (Nat.Coprime.symm c) h1
 have h3 : b' ∣ a' * b := ⟨a, by rw [← h, zdg]⟩
 have h4 : b' ∣ b := Nat.Coprime.dvd_of_dvd_mul_left (Nat.Coprime.symm c') h3
 exact Nat.dvd_antisymm h2 h4
theorem yrg {P P' : Int} {Y Y' : Nat} (hY : Y ≠ 0) (hY' : Y' ≠ 0) (h : P * (Y' : Int) = P' * (Y : Int)) : nR P Y = nR P' Y' ∧ dR P Y = dR P' Y' := by
 have e1 := yiz P Y
 have e2 := yiz P' Y'
 have hy : (Y : Int) ≠ 0 := by omega
 have hy' : (Y' : Int) ≠ 0 := by omega
 have k : nR P Y * (dR P' Y' : Int) = nR P' Y' * (dR P Y : Int) := by
  have : ((Y : Int) * (Y' : Int)) * (nR P Y * (dR P' Y' : Int)) = ((Y : Int) * (Y' : Int)) * (nR P' Y' * (dR P Y : Int)) := by
   generalize nR P Y = n at *
   generalize nR P' Y' = n' at *
   generalize (dR P Y : Int) = d at *
   generalize (dR P' Y' : Int) = d' at *
   by_cases hP : P = 0
   ·have h0 : P' = 0 := by
     rw [hP, Int.zero_mul] at h
     rcases Int.mul_eq_zero.1 h.symm with h | h
     ·exact h
     ·exact absurd h hy
    have n0 : n = 0 := by
     rw [hP, Int.zero_mul] at e1
     rcases Int.mul_eq_zero.1 e1 with h | h
     ·exact h
     ·exact absurd h hy
    have n0' : n' = 0 := by
     rw [h0, Int.zero_mul] at e2
     rcases Int.mul_eq_zero.1 e2 with h | h
     ·exact h
     ·exact absurd h hy'
    rw [n0, n0']
    simp
   ·have : P * ((Y : Int) * (Y' : Int) * (n * d')) = P * ((Y : Int) * (Y' : Int) * (n' * d)) := by grind
    exact Int.eq_of_mul_eq_mul_left hP this
  exact Int.eq_of_mul_eq_mul_left (Int.mul_ne_zero hy hy') this
 have ka : (nR P Y).natAbs * dR P' Y' = (nR P' Y').natAbs * dR P Y := by
  have := congrArg Int.natAbs k
  simpa [zd5] using this
 have hd := ytx ka (yrf hY) (yrf hY') (ygm hY)
 refine ⟨?_, hd⟩
 rw [hd] at k
 exact Int.eq_of_mul_eq_mul_right (by have := ygm (X := P') hY'; omega) k
theorem yx4 {P P' : Int} {Y Y' : Nat} (hY : Y ≠ 0) (hY' : Y' ≠ 0) (h : P * (Y' : Int) = P' * (Y : Int)) : RN (nR P Y) (dR P Y) = RN (nR P' Y') (dR P' Y') := by
 obtain ⟨h1, h2⟩ := yrg hY hY' h
 rw [h1, h2]
theorem ykn (ρ : Operand → Value) (o : Oper) (x y : Operand) (w : World) (a b : Int) (h1 : ρ x = .int .i64 a) (h2 : ρ y = .int .i64 b) : (execOp ρ { o with op := .binOp .gtr 3 x y 3 }).run Tryz.prog w = .ok (.value (.bool (decide (b < a)))) w := by
 by_cases h : b < a
 ·rw [decide_eq_true h]
  unfold execOp
  go_simp
 ·rw [decide_eq_false h]
  have h' : a ≤ b := by omega
  clear h
  unfold execOp
  go_simp
theorem yr4 (w : World) (A : Int) (D k1 k2 : Nat) (u : Value) (h : Rv A (D : Int) k1 k2 u w) (hk1 : k1 ≤ 8388608) (hk2 : k2 ≤ 8388608) (hB : (D : Int) ≠ 0) (hmt : decide (0 < (D : Int).sign) = true) :
  CG 54 #[u] w (TWO (ZN (nr A (D : Int))) (IS (.int .i64 0))) := by
 refine yap (sl := [(0, (PR (Zv A k1) (Zv ((D : Int)) k2)))]) Tryz.func54 rfl Tryz.ntmps54 (by simp) (yai rfl (yoy h) yat) ?_
 intro a0 S0
 refine wq [.new (.box 26 (PR (Zv A k1) (Zv ((D : Int)) k2))), .new (.box 24 zI), V (iV 0)] [.inl 0, .inl 1] [.inl 2] S0 ?_ ?_
 ·exact jj3 (bxA wA (oS 0 0) (ydg (yay yaj yaj))) (nwA wA yal) mC
 intro _ a1 _ (S1 : Zt [_,_] [_])
 refine wp_seq ?_
 refine wq [V (PR (Zv A k1) (Zv ((D : Int)) k2)), V (RL1 (PR (Zv A k1) (Zv ((D : Int)) k2)) w.heap.size), kT, kF] ur2 [.inl 3, .inr 0] S1 ?_ ?_
 ·exact jj4 (loA 0 wA yas (yay yaj yaj)) (yyb rfl wA rfl (oO 0 4) (yay yaj yaj) rfl) (cc1 wA (qO 1 5 rfl) (yah _) (fun w u h1 => Gives.cast (yt6 (by omega) w u (yyl (yl2 (fun _ _ h => h) (fun _ _ h => h)) _ _ h1)) (by rw [hmt]))) (yfe wA (oO 2 6))
 intro _ a2 _ (S2 : Zt [_,_] [_,_])
 refine wp_cond_false (S2.bool 0 7 rfl) (wp_skip (thenN ?_))
 refine wq [V (Part a2 1 0), V (Zv A k1), V (Part a2 1 2), V (Zv ((D : Int)) k2), Fw (TWO (ZN (nr A ((D : Int)))) (IS (.int .i64 0))) w, Fw (ZN (nr A ((D : Int)))) w, V (iV 0), .put (.inl 2) (.box 24 ((ZN (nr A ((D : Int)))) w.heap.size)), V (iV 0)] ur2 [.inl 8, .inr 0] S2 ?_ ?_
 ·exact ⟨jj8 (ptZ wA 0 ycx) (plA wA (oO 0 9) 0 rfl rfl yde) (ptA wA 0 yco) (plA wA (oO 2 11) 0 rfl rfl ycp) (cc2 wA (qO 1 10 rfl) (qO 3 12 rfl) (ybj (yaf _) (yah _)) (fun w u v h1 h2 => yxs hB (by omega) w u v ((fun _ _ h => h) _ _ h1) ((fun _ _ h => h) _ _ h2))) (e20 wA (oO 4 13)) (e21 wA (oO 4 13)) (seA 1 wA (oO 5 14) yab yau yae), mO 6 15⟩
 intro _ a3 _ (S3 : Zt [_,_] [_,_])
 refine wp_ret ?_
 exact ydo S3 rfl (ya2 S3 1 2 rfl yab yae) (ya7 S3 0 3 rfl)
theorem ylf {A : Int} {D k1 k2 : Nat} (hD : D ≠ 0) (hk1 : k1 ≤ 8388608) (hk2 : k2 ≤ 8388608) : ∀ w u, Rv A (D : Int) k1 k2 u w → CG 54 #[u] w (TWO (ZN (nr A (D : Int))) (IS (.int .i64 0))) := fun w u h => yr4 w A D k1 k2 u h hk1 hk2 (by omega) (by rw [yur hD]; rfl)
theorem yuy (w : World) (A D : Int) (k1 k2 : Nat) (u : Value) (h : Rv A D k1 k2 u w) (hk1 : k1 ≤ 8388608) (hk2 : k2 ≤ 8388608) :
  CG 7 #[u] w (IS (.bool (decide (0 < D.sign)))) := by
 refine yap (sl := [(0, (PR (Zv A k1) (Zv D k2)))]) Tryz.func7 rfl Tryz.ntmps7 (by simp) (yai rfl (yoy h) yat) ?_
 intro a0 S0
 refine wq [.new (.box 26 (PR (Zv A k1) (Zv D k2))), kF] [.inl 0] [.inl 1] S0 ?_ ?_
 ·exact jj2 (bxA wA (oS 0 0) (ydg (yay yaj yaj))) mC
 intro _ a1 _ (S1 : Zt [_] [_])
 refine wq [V (Part a1 1 2), V (Zv D k2), V (iV ((D).sign)), V (Is (.bool (decide (0 < D.sign)))), V (Is (.bool (decide (0 < D.sign))))] [.inr 0] [.inl 4] S1 ?_ ?_
 ·exact jj5 (ptA wA 0 yco) (plA wA (oO 0 3) 0 rfl rfl ycp) (cc1 wA (qO 1 4 rfl) (yah _) (fun w u h1 => ym0 (by omega) w u ((fun _ _ h => h) _ _ h1))) (yba rfl wA rfl (oO 2 5) (yac _) rfl (fun ρ w h1 h2 => by exact ykn ρ _ _ _ w _ _ h1 h2)) (mO 3 6)
 intro _ a2 _ (S2 : Zt [_] [_])
 refine wp_ret ?_
 exact ya3 S2 rfl (ya7 S2 0 2 rfl)
theorem yj0 {A D : Int} {k1 k2 : Nat} (hk1 : k1 ≤ 8388608) (hk2 : k2 ≤ 8388608) : ∀ w u, Rv A D k1 k2 u w → CG 7 #[u] w (IS (.bool (decide (0 < D.sign)))) := fun w u h => yuy w A D k1 k2 u h hk1 hk2
theorem ym8 {D : Int} (h : decide (0 < D.sign) = true) : ∃ d : Nat, D = (d : Int) ∧ d ≠ 0 := by
 have h1 : 0 < D.sign := of_decide_eq_true h
 have h2 : 0 < D := by
  rcases zgd D 0 with h | h | h
  ·rw [zd8 h] at h1; omega
  ·rw [h] at h1; exact absurd h1 (by decide)
  ·exact h
 exact ⟨D.toNat, by omega, by omega⟩
theorem yxp {A : Int} {D k k' : Nat} (hD : D ≠ 0) (hk : k ≤ 67108864) (hk' : k' ≤ 67108864) : ∀ w u v, Zv A k u w → Zv (D : Int) k' v w → CG 50 #[u, v] w (RN (nR A D) (dR A D)) := by
 rintro w u v ⟨s, p, n, c, xs, rfl, h, rfl, hn⟩ ⟨t, q, m, d, ys, rfl, h', eD, hm⟩
 obtain ⟨rfl, rfl⟩ := yg5 eD hD
 rw [yug, yty]
 exact ygb (ync w s p q n c m d xs ys h h' hD (by omega) (by omega))
theorem zap (A : Int) (D : Nat) : nR (-A) D = - nR A D := by
 unfold nR
 rw [zg5]
 by_cases h0 : A = 0
 ·subst h0; simp [sg]
 ·have e : ng (-A) = !(ng A) := by
   unfold ng
   rcases Int.lt_or_gt_of_ne h0 with h | h
   ·rw [decide_eq_false (by omega), decide_eq_true h]; rfl
   ·rw [decide_eq_true (by omega), decide_eq_false (by omega)]; rfl
  rw [e, yik]
theorem yzx (A : Int) (D : Nat) : dR (-A) D = dR A D := by unfold dR; rw [zg5]
theorem yxq {A : Int} {D k k' : Nat} (hD : D ≠ 0) (hk : k ≤ 67108864) (hk' : k' ≤ 67108864) : ∀ w u, Rv A (D : Int) k k' u w → CG 49 #[u] w (RN (nR (-A) D) (dR (-A) D)) := by
  rintro w u ⟨x0, x1, y0, y1, rfl, ⟨s, p, n, c, xs, ea, h, rfl, hn⟩, ⟨t, q, m, d, ys, eb, h', eD, hm⟩⟩
  simp at ea eb
  obtain ⟨rfl, rfl⟩ := ea
  obtain ⟨rfl, rfl⟩ := eb
  obtain ⟨rfl, rfl⟩ := yg5 eD hD
  have := ygb (ywe w s p q n c m d xs ys h h' hD (by omega) (by omega))
  first
    | exact this
    | (refine Gives.cast this ?_
       rw [← yik, yug, yty])
theorem yn6 {A : Int} {k : Nat} (hk : k ≤ 67108864) : ∀ w u, Zv A k u w → CG 23 #[u] w (RN A 1) := by
 rintro w u ⟨s, p, n, c, xs, rfl, h, rfl, hn⟩
 exact ygb (zcz w s p n c xs h (by omega))
theorem yrh {P : Int} {Y : Nat} (hY : Y ≠ 0) : nR (nR P Y) (dR P Y) = nR P Y ∧ dR (nR P Y) (dR P Y) = dR P Y := yrg (ygm hY) hY (yiz P Y)
theorem ygj {A : Int} {k : Nat} {u : Value} {w : World} (h : Zv A k u w) : (digs A.natAbs).length ≤ k := by
 obtain ⟨s, p, n, c, xs, rfl, h1, rfl, h2⟩ := h
 exact zdf (ymb h1) h2
end Go.Proofs.YtdnindaohpdblaaGreat
