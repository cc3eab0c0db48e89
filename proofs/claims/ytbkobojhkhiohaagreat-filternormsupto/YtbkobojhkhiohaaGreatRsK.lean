import Derived.Test.YtbkobojhkhiohaaGreatSetR
import Derived.Test.YtbkobojhkhiohaaGreatRsJ
import Derived.Test.YtbkobojhkhiohaaGreatSetG
set_option linter.all false
namespace Go.Proofs.YtbkobojhkhiohaaGreat
open Go Go.RowKit Nt
set_option maxRecDepth 20000
set_option maxHeartbeats 16000000
theorem yln {lo : Nat} : ∀ v w, IS (.agg #[.bool false, .slice none 0 0]) lo v w → ZN 0 lo v w := fun v w e => ⟨none, 0, e, Sl.none w, fun b o h => nomatch h⟩
def PR (φ ψ : Pr) : Pr := fun v w => ∃ x0 x1 y0 y1, v = .agg #[x0, x1, y0, y1] ∧ φ (.agg #[x0, x1]) w ∧ ψ (.agg #[y0, y1]) w
def PRF (φ ψ : Nat → Pr) : Nat → Pr := fun lo => PR (φ lo) (ψ lo)
def RN (N : Int) (D : Nat) : Nat → Pr := PRF (ZN N) (ZN (D : Int))
theorem yff {φ ψ : Nat → Pr} (h : Fresh φ) (h' : Fresh ψ) : Fresh (PRF φ ψ) :=
 ⟨fun lo lo' v w hl ⟨x0, x1, y0, y1, e, a, b⟩ => ⟨x0, x1, y0, y1, e, h.mono _ _ _ _ hl a, h'.mono _ _ _ _ hl b⟩, fun lo v w w' B hB ⟨x0, x1, y0, y1, e, a, b⟩ ev => ⟨x0, x1, y0, y1, e, h.ev _ _ _ _ B hB a ev, h'.ev _ _ _ _ B hB b ev⟩⟩
theorem yec (N : Int) (D : Nat) : Fresh (RN N D) := yff (yai _) (yai _)
theorem yjr {φ ψ φ' ψ' : Pr} (h : ∀ v w, φ v w → φ' v w) (h' : ∀ v w, ψ v w → ψ' v w) : ∀ v w, PR φ ψ v w → PR φ' ψ' v w :=
 fun v w ⟨x0, x1, y0, y1, e, a, b⟩ => ⟨x0, x1, y0, y1, e, h _ _ a, h' _ _ b⟩
theorem yuk {A : Int} {k : Nat} {u : Value} {w : World} (h : Zv A k u w) : Has (fun _ => False) w (Zv A k) u := fun w' e => by
 obtain ⟨s, p, n, c, xs, rfl, hs, hA, hn⟩ := h
 exact ⟨s, p, n, c, xs, rfl, yi3 hs (fun _ _ _ _ h => h) e, hA, hn⟩
theorem zcb {φ ψ : Pr} {u : Value} {w : World} (h : PR φ ψ u w) (h1 : ∀ v, φ v w → Has (fun _ => False) w φ v) (h2 : ∀ v, ψ v w → Has (fun _ => False) w ψ v) : Has (fun _ => False) w (PR φ ψ) u := fun w' e => by
 obtain ⟨x0, x1, y0, y1, rfl, a, b⟩ := h
 exact ⟨x0, x1, y0, y1, rfl, h1 _ a w' e, h2 _ b w' e⟩
abbrev Rv (A : Int) (D : Int) (k k' : Nat) : Pr := PR (Zv A k) (Zv D k')
theorem ymt {A D : Int} {k k' : Nat} {u : Value} {w : World} (h : Rv A D k k' u w) : Has (fun _ => False) w (Rv A D k k') u := zcb h (fun _ => yuk) (fun _ => yuk)
theorem yzl {N : Int} {D lo k k' : Nat} (h : (digs N.natAbs).length ≤ k) (h' : (digs D).length ≤ k') : ∀ v w, RN N D lo v w → Rv N (D : Int) k k' v w :=
 yjr (ya4 h) (ya4 (by rw [zfn]; exact h'))
theorem yhd {A : Int} {k k' : Nat} (hk : k ≤ k') : ∀ v w, Zv A k v w → Zv A k' v w := fun v w ⟨s, p, n, c, xs, e, h, hA, hn⟩ => ⟨s, p, n, c, xs, e, h, hA, ze6 hn hk⟩
theorem yuf : ∀ v w, Is (.agg #[.bool false, .slice none 0 0]) v w → Zv 0 0 v w := fun v w e => ⟨false, none, 0, 0, [], e, Sl.none w, rfl, ze5 _⟩
theorem yjq {x0 x1 : Value} {φ : Pr} {w : World} (h : Shp 2 φ) (hφ : φ (.agg #[x0, x1]) w) : x0.oneCell' = true ∧ x1.oneCell' = true := by
 obtain ⟨cs, e, _, h1⟩ := h _ w hφ
 simp only [Value.agg.injEq] at e
 subst e
 simpa using h1
theorem ya2 {φ ψ : Pr} (h : Shp 2 φ) (h' : Shp 2 ψ) : Shp 4 (PR φ ψ) := fun u w ⟨x0, x1, y0, y1, e, a, b⟩ => by
 have h1 := yjq h a
 have h2 := yjq h' b
 exact ⟨_, e, rfl, by simp [h1, h2]⟩
theorem ybk : Shp 4 zR := fun u w e => ⟨_, e, rfl, by simp [Value.oneCell']⟩
theorem yaj : Strct 31 4 := ⟨⟨_, Tryz.underlying31, rfl⟩, by kernel_rfl⟩
theorem yqq {φ : Pr} (h : Shp 4 φ) {u : Value} {w : World} (hφ : φ u w) : ∃ x y z v, u = .agg #[x, y, z, v] := by
 obtain ⟨cs, rfl, hn, _⟩ := h u w hφ
 obtain ⟨l⟩ := cs
 match l, hn with
 | [x, y, z, v], _ => exact ⟨x, y, z, v, rfl⟩
theorem ya5 (ρ : Operand → Value) (o : Oper) (w : World) : (execOp ρ { o with op := .alloc 31 }).run Tryz.prog w = .ok (.value (.pointer (some ⟨w.heap.size, 0, none⟩))) (w.alloc (.cells (Value.agg #[.bool false, .slice none 0 0, .bool false, .slice none 0 0]).cells 31 (0, 0))) := by
 unfold execOp
 go_simp
theorem ycn {φ : Pr} (h : Shp 4 φ) (ρ : Operand → Value) (o : Oper) (x : Operand) (w : World) (hφ : φ (ρ x) w) : (execOp ρ { o with op := .box 31 x }).run Tryz.prog w = .ok (.value (.pointer (some ⟨w.heap.size, 0, none⟩))) (w.alloc (.cells (ρ x).cells 31 (0, 0))) := by
 obtain ⟨y, z, u, v, e⟩ := yqq h hφ
 clear hφ h
 rw [e]
 unfold execOp
 go_simp
theorem ycu (ρ : Operand → Value) (o : Oper) (x : Operand) (w : World) (b f : Nat) (h : ρ x = .pointer (some ⟨b, f, none⟩)) : (execOp ρ { o with op := .fieldAddr 31 x 0 }).run Tryz.prog w = .ok (.value (.pointer (some ⟨b, f, none⟩))) w := by
 unfold execOp
 go_simp
theorem yby (ρ : Operand → Value) (o : Oper) (x : Operand) (w : World) (b f : Nat) (h : ρ x = .pointer (some ⟨b, f, none⟩)) : (execOp ρ { o with op := .fieldAddr 31 x 1 }).run Tryz.prog w = .ok (.value (.pointer (some ⟨b, f + 2, none⟩))) w := by
 unfold execOp
 go_simp
theorem yo7 {ρ : Operand → Value} {o : Oper} {x : Operand} {w : World} {b off : Nat} {x0 x1 : Value} (hx : ρ x = .pointer (some ⟨b, off, none⟩)) (h0 : w.cell? ⟨b, off, none⟩ = some x0) (h1 : w.cell? ⟨b, off + 1, none⟩ = some x1) :
  (execOp ρ { o with op := .load 29 x }).run Tryz.prog w = .ok (.value (.agg #[x0, x1])) w := by
 obtain ⟨⟨d, hu, hd⟩, hi⟩ := yaa
 unfold execOp
 simp only [hx, Sem.run_bind, run_loadAt_mid (P := Tryz.prog) w b off 29 [x0, x1] d (fun j v hv => by
  match j, hv with
  | 0, hv => simp only [zgh, Option.some.injEq] at hv; subst hv; exact h0
  | 1, hv => simp only [zhb, zgh, Option.some.injEq] at hv; subst hv; exact h1
  | j + 2, hv => simp at hv) hu hd (by rw [hi]; rfl), Result.andThen_ok, Sem.run_pure]
theorem yfa {w : World} {b i : Nat} {cs : Array Value} {T : TypeId} (h : w.heap[b]? = some (.cells cs T (0, 0))) : w.cell? ⟨b, i, none⟩ = cs[i]? := by simp [World.cell?, h]
theorem yc6 {φ ψ : Pr} (ρ : Operand → Value) (o : Oper) (x : Operand) (w : World) (b : Nat) (u : Value) (hφ : PR φ ψ u w) (hx : ρ x = .pointer (some ⟨b, 0, none⟩)) (hb : w.heap[b]? = some (.cells u.cells 31 (0, 0))) :
  ∃ v, (execOp ρ { o with op := .load 29 x }).run Tryz.prog w = .ok (.value v) w ∧ ∀ w', PR φ ψ u w' → φ v w' := by
 obtain ⟨x0, x1, y0, y1, rfl, a, b'⟩ := hφ
 refine ⟨.agg #[x0, x1], yo7 hx ((yfa hb).trans rfl) ((yfa hb).trans rfl), fun w' h' => ?_⟩
 obtain ⟨a0, a1, b0, b1, e, ha, _⟩ := h'
 simp at e
 rw [e.1, e.2.1]
 exact ha
theorem yb1 {φ ψ : Pr} (ρ : Operand → Value) (o : Oper) (x : Operand) (w : World) (b : Nat) (u : Value) (hφ : PR φ ψ u w) (hx : ρ x = .pointer (some ⟨b, 2, none⟩)) (hb : w.heap[b]? = some (.cells u.cells 31 (0, 0))) :
  ∃ v, (execOp ρ { o with op := .load 29 x }).run Tryz.prog w = .ok (.value v) w ∧ ∀ w', PR φ ψ u w' → ψ v w' := by
 obtain ⟨x0, x1, y0, y1, rfl, a, b'⟩ := hφ
 refine ⟨.agg #[y0, y1], yo7 hx ((yfa hb).trans rfl) ((yfa hb).trans rfl), fun w' h' => ?_⟩
 obtain ⟨a0, a1, b0, b1, e, _, ha⟩ := h'
 simp at e
 rw [e.2.2.1, e.2.2.2]
 exact ha
section
variable {ops : Array Oper} {l : List Kd} {bx : Bxs} {sl : List (Tmp × Pr)} {i : Nat} {o : Oper} {Q : Exit → Act → World → Prop} {a0 : Act} {n : Nat} {w0 : World}
theorem yfy {x y : Operand} {φ ψ : Pr} (ho : ops[i]? = some o) (hw : Wants ops l bx sl i o) (hop : o.op = .build 31 #[(0, x), (1, y)]) (hx : Opnd ops l bx sl i x φ) (hy : Opnd ops l bx sl i y ψ) (hφ : Shp 2 φ) (hψ : Shp 2 ψ) (hk : kdAt l i = .val (PR φ ψ)) : Owed Tryz.prog ops Q l bx sl a0 n w0 i :=
 ycq ho hw hk fun vs B a w c => by
  have h1 := hx a0 n w0 vs B a w c
  have h2 := hy a0 n w0 vs B a w c
  obtain ⟨x0, x1, e1⟩ := yg7 hφ h1.now
  obtain ⟨y0, y1, e2⟩ := yg7 hψ h2.now
  refine ⟨.agg #[x0, x1, y0, y1], ?_, fun w' e' => ⟨x0, x1, y0, y1, rfl, e1 ▸ h1 w' e', e2 ▸ h2 w' e'⟩⟩
  unfold execOp
  rw [hop]
  clear h1 h2 hx hy
  generalize a.eval = ρ at e1 e2
  go_simp
theorem yda (ho : ops[i]? = some o) (hw : Wants ops l bx sl i o) (hop : o.op = .build 31 #[]) (hk : kdAt l i = .val zR) : Owed Tryz.prog ops Q l bx sl a0 n w0 i :=
 ymg ho hw hk fun vs B a w c => by
  unfold execOp
  rw [hop]
  generalize a.eval = ρ
  go_simp
end
theorem ygb {t : Bool} {ys : List Nat} {D : Nat} (e : sg t (val ys) = (D : Int)) (hD : D ≠ 0) : t = false ∧ val ys = D := by
 cases t
 ·simp only [sg, zhm, if_false] at e
  exact ⟨rfl, by omega⟩
 ·simp only [sg, if_true] at e
  omega
theorem ye1 {w : World} {A : Int} {D k k' f : Nat} {args : Array Value} (h : Calls Tryz.prog f args w (Rt w A D k k')) : CG f args w (RN A D) := by
 refine h.mono ?_
 rintro e w' ⟨b1, L1, D1, r1, k1, L2, r2, k2, rfl, hb, s1, s2, hN, hL1, hL2, f1, f2⟩
 have hl := s2.out.len
 refine ⟨_, rfl, hb, _, _, _, _, rfl, yql hN.out s1.out f1.out, yql ⟨?_, ?_, ?_⟩ s2.out f2.out⟩
 ·unfold ng; simp
 ·rw [zfn]
 ·exact hl
theorem yto {w : World} {A : Int} {D k k' f : Nat} {args : Array Value} (h : Calls Tryz.prog f args w (RtE w A D k k')) : CG f args w (TWO (RN A D) (IS (.int .i64 0))) := by
 refine h.mono ?_
 rintro e w' ⟨b1, L1, D1, r1, k1, L2, r2, k2, rfl, hb, s1, s2, hN, hL1, hL2, f1, f2⟩
 have hl := s2.len
 refine ⟨_, rfl, hb, _, _, rfl, ⟨_, _, _, _, rfl, yql hN s1 f1.out, yql ⟨?_, ?_, ?_⟩ s2 f2.out⟩, rfl⟩
 ·unfold ng; simp
 ·rw [zfn]
 ·exact hl
theorem zbd {A : Int} {k : Nat} (hk : k ≤ 70368744177664) : ∀ w u, Zv A k u w → CG 48 #[u] w (ZN (-A)) := by
 rintro w u ⟨s, p, n, c, xs, rfl, h, rfl, hn⟩
 refine (zdl w s p n c xs h (by omega)).mono ?_
 rintro e w' ⟨r, cr, rfl, Z⟩
 exact ycx Z
theorem zbe {A : Int} {k : Nat} (hk : k ≤ 70368744177664) : ∀ w u, Zv A k u w → CG 47 #[u] w (IS (.int .i64 A.sign)) := by
 rintro w u ⟨s, p, n, c, xs, rfl, h, rfl, hn⟩
 refine (yi5 w s p n c xs h (by omega)).mono ?_
 rintro e w' ⟨rfl, hb⟩
 exact ⟨_, rfl, hb, rfl⟩
theorem yl7 {A : Int} {D k k' : Nat} (hD : D ≠ 0) (hk : k ≤ 67108864) (hk' : k' ≤ 67108864) : ∀ w u v, Zv A k u w → Zv (D : Int) k' v w → CG 22 #[u, v] w (TWO (RN (nR A D) (dR A D)) (IS (.int .i64 0))) := by
 rintro w u v ⟨s, p, n, c, xs, rfl, h, rfl, hn⟩ ⟨t, q, m, d, ys, rfl, h', eD, hm⟩
 obtain ⟨rfl, rfl⟩ := ygb eD hD
 rw [yqk, yp8]
 exact yto (ynx w s p q n c m d xs ys h h' hD (by omega) (by omega))
theorem yyc {A : Int} {k : Nat} (hk : k ≤ 67108864) : ∀ w u, Zv A k u w → CG 71 #[u] w (RN A 1) := by
 rintro w u ⟨s, p, n, c, xs, rfl, h, rfl, hn⟩
 exact ye1 (yze w s p n c xs h (by omega))
theorem yno {A N : Int} {D M k1 k2 k3 k4 : Nat} (hD : D ≠ 0) (hM : M ≠ 0) (b1 : k1 ≤ 8388608) (b2 : k2 ≤ 8388608) (b3 : k3 ≤ 8388608) (b4 : k4 ≤ 8388608) : ∀ w u v, Rv A (D : Int) k1 k2 u w → Rv N (M : Int) k3 k4 v w → CG 26 #[u, v] w (RN (nR (A * (M : Int) + N * (D : Int)) (D * M)) (dR (A * (M : Int) + N * (D : Int)) (D * M))) := by
 rintro w u v ⟨x0, x1, y0, y1, rfl, ⟨s, p, n, c, xs, ea, h, rfl, hn⟩, ⟨t, q, m, d, ys, eb, h', eD, hm⟩⟩ ⟨z0, z1, u0, u1, rfl, ⟨s', p', n', c', xs', ea', h2, rfl, hn'⟩, ⟨t', q', m', d', ys', eb', h2', eM, hm'⟩⟩
 simp at ea eb ea' eb'
 obtain ⟨rfl, rfl⟩ := ea
 obtain ⟨rfl, rfl⟩ := eb
 obtain ⟨rfl, rfl⟩ := ea'
 obtain ⟨rfl, rfl⟩ := eb'
 obtain ⟨rfl, rfl⟩ := ygb eD hD
 obtain ⟨rfl, rfl⟩ := ygb eM hM
 exact ye1 (ytk w s p n c xs q m d ys s' p' n' c' xs' q' m' d' ys' h h' h2 h2' hD hM _ _ rfl rfl (by omega) (by omega) (by omega) (by omega))
theorem yyg {A N : Int} {D M k1 k2 k3 k4 : Nat} (hD : D ≠ 0) (hM : M ≠ 0) (b1 : k1 ≤ 8388608) (b2 : k2 ≤ 8388608) (b3 : k3 ≤ 8388608) (b4 : k4 ≤ 8388608) : ∀ w u v, Rv A (D : Int) k1 k2 u w → Rv N (M : Int) k3 k4 v w → CG 56 #[u, v] w (RN (nR (A * (dR (-N) M : Nat) + nR (-N) M * (D : Int)) (D * dR (-N) M)) (dR (A * (dR (-N) M : Nat) + nR (-N) M * (D : Int)) (D * dR (-N) M))) := by
 rintro w u v ⟨x0, x1, y0, y1, rfl, ⟨s, p, n, c, xs, ea, h, rfl, hn⟩, ⟨t, q, m, d, ys, eb, h', eD, hm⟩⟩ ⟨z0, z1, u0, u1, rfl, ⟨s', p', n', c', xs', ea', h2, rfl, hn'⟩, ⟨t', q', m', d', ys', eb', h2', eM, hm'⟩⟩
 simp at ea eb ea' eb'
 obtain ⟨rfl, rfl⟩ := ea
 obtain ⟨rfl, rfl⟩ := eb
 obtain ⟨rfl, rfl⟩ := ea'
 obtain ⟨rfl, rfl⟩ := eb'
 obtain ⟨rfl, rfl⟩ := ygb eD hD
 obtain ⟨rfl, rfl⟩ := ygb eM hM
 exact ye1 (ytm w s p n c xs q m d ys s' p' n' c' xs' q' m' d' ys' h h' h2 h2' hD hM _ _ rfl rfl (by omega) (by omega) (by omega) (by omega))

section
variable {ops : Array Oper} {l : List Kd} {bx : Bxs} {sl : List (Tmp × Pr)} {i : Nat} {o : Oper} {Q : Exit → Act → World → Prop} {a0 : Act} {n : Nat} {w0 : World}
end
theorem yul {A : Int} {k : Nat} {u : Value} {w : World} (h : Zv A k u w) : (digs A.natAbs).length ≤ k := by
 obtain ⟨s, p, n, c, xs, rfl, hs, rfl, hn⟩ := h
 exact ze6 (ygv hs) hn
def adN (A N : Int) (D M : Nat) : Int := A * (M : Int) + N * (D : Int)
theorem ygo (P : Int) (Y : Nat) : nR P Y * (Y : Int) = P * (dR P Y : Int) := by
 have h1 := g_nR P Y
 have h2 := g_dR P Y
 have h3 : ((Nat.gcd P.natAbs Y : Nat) : Int) * (dR P Y : Int) = (Y : Int) := by rw [← zfh, h2]
 generalize ((Nat.gcd P.natAbs Y : Nat) : Int) = G at h1 h3
 grind
theorem ywq (P : Int) (Y : Nat) : (nR P Y).natAbs = P.natAbs / Nat.gcd P.natAbs Y := by unfold nR; rw [sg_abs]
theorem ywr {P : Int} {Y k : Nat} (h : (digs P.natAbs).length ≤ k) : (digs (nR P Y).natAbs).length ≤ k := by
 rw [ywq]
 exact ze6 (yae (zfy _ _)) h
theorem ywb {P : Int} {Y k : Nat} (h : (digs Y).length ≤ k) : (digs (dR P Y)).length ≤ k := by
 unfold dR
 exact ze6 (yae (zfy _ _)) h
theorem ysc {P : Int} {Y : Nat} (hY : Y ≠ 0) : Nat.gcd (nR P Y).natAbs (dR P Y) = 1 := by
 rw [ywq]
 unfold dR
 have hg : 0 < Nat.gcd P.natAbs Y := zh3 _ (by omega)
 exact Nat.gcd_div_gcd_div_gcd_of_pos_right (by omega)
theorem yuu {a b a' b' : Nat} (h : a * b' = a' * b) (c : Nat.gcd a b = 1) (c' : Nat.gcd a' b' = 1) (hb : b ≠ 0) : b = b' := by
 have h1 : b ∣ a * b' := ⟨a', by rw [h, ze8]⟩
 have h2 : b ∣ b' := Nat.Coprime.dvd_of_dvd_mul_left (Nat.Coprime.symm c) h1
 have h3 : b' ∣ a' * b := ⟨a, by rw [← h, ze8]⟩
 have h4 : b' ∣ b := Nat.Coprime.dvd_of_dvd_mul_left (Nat.Coprime.symm c') h3
 exact Nat.dvd_antisymm h2 h4
theorem yys {P P' : Int} {Y Y' : Nat} (hY : Y ≠ 0) (hY' : Y' ≠ 0) (h : P * (Y' : Int) = P' * (Y : Int)) : nR P Y = nR P' Y' ∧ dR P Y = dR P' Y' := by
 have e1 := ygo P Y
 have e2 := ygo P' Y'
 have hy : (Y : Int) ≠ 0 := by omega
 have hy' : (Y' : Int) ≠ 0 := by omega
 have k : nR P Y * (dR P' Y' : Int) = nR P' Y' * (dR P Y : Int) := by
  have : ((Y : Int) * (Y' : Int)) * (nR P Y * (dR P' Y' : Int)) = ((Y : Int) * (Y' : Int)) * (nR P' Y' * (dR P Y : Int)) := by
   generalize nR P Y = n at *
   generalize nR P' Y' = n' at *
   generalize (dR P Y : Int) = d at *
   generalize (dR P' Y' : Int) = d' at *
   by_cases hP : P = 0
   ·have h0 : P' = 0 := by
     rw [hP, Int.zero_mul] at h
     rcases Int.mul_eq_zero.1 h.symm with h | h
     ·exact h
     ·exact absurd h hy
    have n0 : n = 0 := by
     rw [hP, Int.zero_mul] at e1
     rcases Int.mul_eq_zero.1 e1 with h | h
     ·exact h
     ·exact absurd h hy
    have n0' : n' = 0 := by
     rw [h0, Int.zero_mul] at e2
     rcases Int.mul_eq_zero.1 e2 with h | h
     ·exact h
     ·exact absurd h hy'
    rw [n0, n0']
    simp
   ·have : P * ((Y : Int) * (Y' : Int) * (n * d')) = P * ((Y : Int) * (Y' : Int) * (n' * d)) := by grind
    exact Int.eq_of_mul_eq_mul_left hP this
  exact Int.eq_of_mul_eq_mul_left (Int.mul_ne_zero hy hy') this
 have ka : (nR P Y).natAbs * dR P' Y' = (nR P' Y').natAbs * dR P Y := by
  have := congrArg Int.natAbs k
  simpa [zft] using this
 have hd := yuu ka (ysc hY) (ysc hY') (yeh hY)
 refine ⟨?_, hd⟩
 rw [hd] at k
 exact Int.eq_of_mul_eq_mul_right (by have := yeh (X := P') hY'; omega) k
theorem yk8 (ρ : Operand → Value) (o : Oper) (x y : Operand) (w : World) (a b : Int) (h1 : ρ x = .int .i64 a) (h2 : ρ y = .int .i64 b) : (execOp ρ { o with op := .binOp .gtr 3 x y 3 }).run Tryz.prog w = .ok (.value (.bool (decide (b < a)))) w := by
 by_cases h : b < a
 ·rw [decide_eq_true h]
  unfold execOp
  go_simp
 ·rw [decide_eq_false h]
  have h' : a ≤ b := by omega
  clear h
  unfold execOp
  go_simp
theorem yvp (w : World) (A D : Int) (k1 k2 : Nat) (u : Value) (h : Rv A D k1 k2 u w) (hk1 : k1 ≤ 8388608) (hk2 : k2 ≤ 8388608) :
  CG 13 #[u] w (IS (.bool (decide (0 < D.sign)))) := by
 refine yan (sl := [(0, (PR (Zv A k1) (Zv D k2)))]) Tryz.func13 rfl Tryz.ntmps13 (by simp) (yad rfl (ymt h) yar) ?_
 intro a0 S0
 refine wq [.new (.box 31 (PR (Zv A k1) (Zv D k2))), kF] [.inl 0] [.inl 1] S0 ?_ ?_
 ·exact jj2 (bxA wA (oS 0 0) (ycn (ya2 yak yak))) mC
 intro _ a1 _ (S1 : Zt [_] [_])
 refine wq [V (Part a1 1 2), V (Zv D k2), V (iV ((D).sign)), V (Is (.bool (decide (0 < D.sign)))), V (Is (.bool (decide (0 < D.sign))))] [.inr 0] [.inl 4] S1 ?_ ?_
 ·exact jj5 (ptA wA 0 yby) (plA wA (oO 0 3) 0 rfl rfl yb1) (cc1 wA (qO 1 4 rfl) (yaf _) (fun w u h1 => ydh (by omega) w u ((fun _ _ h => h) _ _ h1))) (ycl rfl wA rfl (oO 2 5) (yab _) rfl (fun ρ w h1 h2 => by exact yk8 ρ _ _ _ w _ _ h1 h2)) (mO 3 6)
 intro _ a2 _ (S2 : Zt [_] [_])
 refine wp_ret ?_
 exact yav S2 rfl (yaw S2 0 2 rfl)
theorem yed {A D : Int} {k1 k2 : Nat} (hk1 : k1 ≤ 8388608) (hk2 : k2 ≤ 8388608) : ∀ w u, Rv A D k1 k2 u w → CG 13 #[u] w (IS (.bool (decide (0 < D.sign)))) := fun w u h => yvp w A D k1 k2 u h hk1 hk2
theorem yyn {a b k l : Nat} (h : (digs a).length ≤ k) (h' : (digs b).length ≤ l) : (digs (a * b)).length ≤ k + l := yam h h'
theorem yxm {A N : Int} {D M k l : Nat} (hA : (digs A.natAbs).length ≤ k) (hD : (digs D).length ≤ k) (hN : (digs N.natAbs).length ≤ l) (hM : (digs M).length ≤ l) : (digs (adN A N D M).natAbs).length ≤ k + l + 1 := by
 unfold adN
 refine yf5 (yco hA (by rw [zfn]; exact hM)) ?_
 rw [zhl k l]
 exact yco hN (by rw [zfn]; exact hD)
theorem yye {A : Int} {D k k' : Nat} (hD : D ≠ 0) (hk : k ≤ 67108864) (hk' : k' ≤ 67108864) : ∀ w u v, Zv A k u w → Zv (D : Int) k' v w → CG 54 #[u, v] w (RN (nR A D) (dR A D)) := by
 rintro w u v ⟨s, p, n, c, xs, rfl, h, rfl, hn⟩ ⟨t, q, m, d, ys, rfl, h', eD, hm⟩
 obtain ⟨rfl, rfl⟩ := ygb eD hD
 rw [yqk, yp8]
 exact ye1 (yk1 w s p q n c m d xs ys h h' hD (by omega) (by omega))
theorem yyf {A : Int} {D k k' : Nat} (hD : D ≠ 0) (hk : k ≤ 67108864) (hk' : k' ≤ 67108864) : ∀ w u, Rv A (D : Int) k k' u w → CG 32 #[u] w (RN (nR (-A) D) (dR (-A) D)) := by
  rintro w u ⟨x0, x1, y0, y1, rfl, ⟨s, p, n, c, xs, ea, h, rfl, hn⟩, ⟨t, q, m, d, ys, eb, h', eD, hm⟩⟩
  simp at ea eb
  obtain ⟨rfl, rfl⟩ := ea
  obtain ⟨rfl, rfl⟩ := eb
  obtain ⟨rfl, rfl⟩ := ygb eD hD
  have := ye1 (yw1 w s p q n c m d xs ys h h' hD (by omega) (by omega))
  first
    | exact this
    | (refine Gives.cast this ?_
       rw [← yj0, yqk, yp8])
theorem zba : ∀ w, CG 51 #[] w (ZN 1) := fun w => by
 refine (yw2 w).mono ?_
 rintro e w' ⟨r, cr, rfl, Z⟩
 exact ycx Z
theorem yu0 {P : Int} {G D : Nat} (hG : G ≠ 0) (hD : D ≠ 0) : fl ((G : Int) * P) ((G * D : Nat) : Int) = fl P (D : Int) := by
 have iD : (D : Int) ≠ 0 := by omega
 obtain ⟨e, h1, _⟩ := yfj (A := P) iD
 have h1 := h1 (by omega)
 obtain ⟨r, hr⟩ : ∃ r, rm P (D : Int) = r := ⟨_, rfl⟩
 obtain ⟨q, hq⟩ : ∃ q, fl P (D : Int) = q := ⟨_, rfl⟩
 rw [hr] at h1
 rw [hq, hr] at e
 rw [hq]
 have gp : (0 : Int) < (G : Int) := by omega
 have m1 : (G : Int) * r < (G : Int) * (D : Int) := Int.mul_lt_mul_of_pos_left h1.2 gp
 have m0 : 0 ≤ (G : Int) * r := zg2 (by omega) h1.1
 have mD : 0 < (G : Int) * (D : Int) := ziq gp (by omega)
 refine (yfe (r := (G : Int) * r) ?_ ?_ (fun hp => ?_) (fun hp => ?_)).1
 ·rw [zfh]; omega
 ·rw [zfh, e]; grind
 ·rw [zfh]; omega
 ·rw [zfh] at hp; omega
theorem za2 {P : Int} {Y : Nat} (hY : Y ≠ 0) : fl (nR P Y) (dR P Y : Int) = fl P (Y : Int) := by
 have hg : Nat.gcd P.natAbs Y ≠ 0 := fun e => hY (zh0 e)
 have := yu0 (P := nR P Y) hg (yeh (X := P) hY)
 rw [g_nR, g_dR] at this
 exact this.symm
theorem ydz {A : Int} {k : Nat} {u : Value} {w : World} (h : Zv A k u w) : (digs A.natAbs).length ≤ k := by
 obtain ⟨s, p, n, c, xs, rfl, h1, rfl, h2⟩ := h
 exact ze6 (ygv h1) h2
theorem yzk (w : World) (u v : Value) (A : Int) (N : Int) (D M k1 k2 k3 k4 : Nat) (h : Hs w (Rv A (D : Int) k1 k2) u) (hv : Hs w (Rv N (M : Int) k3 k4) v) (hD : D ≠ 0) (hM : M ≠ 0) (b1 : k1 ≤ 8388608) (b2 : k2 ≤ 8388608) (b3 : k3 ≤ 8388608) (b4 : k4 ≤ 8388608) :
  CG 29 #[u, v] w (RN (nR (A * N) (D * M)) (dR (A * N) (D * M))) := by
 have hz : D * M ≠ 0 := zfu hD hM
 obtain ⟨x0, x1, y0, y1, _, ha, hd⟩ := h.now
 obtain ⟨x0', x1', y0', y1', _, hn, hm⟩ := hv.now
 have dA := ydz ha
 have dD := ydz hd
 have dN := ydz hn
 have dM := ydz hm
 have hq1 : (digs (A * N).natAbs).length ≤ 16777216 := by rw [zft]; exact ze6 (yam dA dN) (by omega)
 have hq2 : (digs ((D * M : Nat) : Int).natAbs).length ≤ 16777216 := by rw [zfh, zft]; exact ze6 (yam dD dM) (by omega)
 refine yan (sl := [(0, (PR (Zv A k1) (Zv ((D : Int)) k2))), (1, (PR (Zv N k3) (Zv ((M : Int)) k4)))]) Tryz.func29 rfl Tryz.ntmps29 (by simp) (yad rfl (h) (yad rfl (hv) yar)) ?_
 intro a0 S0
 refine wq [.new (.box 31 (PR (Zv A k1) (Zv ((D : Int)) k2))), .new (.box 31 (PR (Zv N k3) (Zv ((M : Int)) k4))), .new (.box 31 zR)] [.inl 0, .inl 1, .inl 2] [] S0 ?_ ?_
 ·exact jj3 (bxA wA (oS 0 0) (ycn (ya2 yak yak))) (bxA wA (oS 1 1) (ycn (ya2 yak yak))) (nwA wA ya5)
 intro _ a1 _ (S1 : Zt [_,_,_] [])
 refine wq [V (Part a1 2 0), V (Zv A k1), V (Part a1 3 0), V (Zv N k3), Fw (ZN (A * N)) w, V (Part a1 2 2), V (Zv ((D : Int)) k2), V (Part a1 3 2), V (Zv ((M : Int)) k4), Fw (ZN (((D * M : Nat) : Int))) w, Fw (RN (nR (A * N) (D * M)) (dR (A * N) (D * M))) w, .put (.inl 4) (.box 31 ((RN (nR (A * N) (D * M)) (dR (A * N) (D * M))) w.heap.size))] [.inr 2] [] S1 ?_ ?_
 ·exact ⟨⟨⟨⟨jj8 (ptZ wA 0 ycu) (plA wA (oO 0 5) 0 rfl rfl yc6) (ptZ wA 1 ycu) (plA wA (oO 2 7) 1 rfl rfl yc6) (cc2 wA (qO 1 6 rfl) (qO 3 8 rfl) (yai _) (fun w u v h1 h2 => yl8 (by omega) w u v ((fun _ _ h => h) _ _ h1) ((fun _ _ h => h) _ _ h2))) (ptA wA 0 yby) (plA wA (oO 5 10) 0 rfl rfl yb1) (ptA wA 1 yby), plA wA (oO 7 12) 1 rfl rfl yb1⟩, cc2 wA (qO 6 11 rfl) (qO 8 13 rfl) (yai _) (fun w u0 u1 h0 h1 => Gives.cast (ψ := (ZN (((D * M : Nat) : Int)))) ((fun w u v h1 h2 => yl8 (by omega) w u v ((fun _ _ h => h) _ _ h1) ((fun _ _ h => h) _ _ h2)) w u0 u1 h0 h1) (by rw [zfh]))⟩, cc2 wA (qO 4 9 rfl) (qO 9 14 rfl) (yec _ _) (fun w u v h1 h2 => yye hz (by omega) (by omega) w u v ((ya4 hq1) _ _ h1) ((ya4 hq2) _ _ h2))⟩, seA 2 wA (oO 10 15) yaj ybk (ya2 yah yah)⟩
 intro _ a2 _ (S2 : Zt [_] [])
 refine wp_ret ?_
 exact yav S2 rfl (yau S2 0 4 rfl yaj (ya2 yah yah))
end Go.Proofs.YtbkobojhkhiohaaGreat
