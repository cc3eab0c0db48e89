import Derived.Test.YtdiagoaakadniaaGreatSetQ
import Derived.Test.YtdiagoaakadniaaGreatSetP
import Derived.Test.YtdiagoaakadniaaGreatSetR
import Derived.Test.YtdiagoaakadniaaGreatRsG
import Derived.Test.YtdiagoaakadniaaGreatRsD
import Derived.Test.YtdiagoaakadniaaGreatRsJ
import Derived.Test.YtdiagoaakadniaaGreatRsE
import Derived.Test.YtdiagoaakadniaaGreatSetX
import Derived.Test.YtdiagoaakadniaaGreatSetE
import Derived.Test.YtdiagoaakadniaaGreatSetG
namespace Go.Proofs.YtdiagoaakadniaaGreat
open Go Go.RowKit Nt
set_option linter.unusedSimpArgs false
set_option linter.unusedVariables false
set_option maxRecDepth 20000
set_option maxHeartbeats 16000000
theorem Sta.change {w0 W : World} {n : Nat} {bx : Bxs} {sl : List (Tmp × Pr)} {B : Nat → Prop} {a : Act} (S : Sta w0 n bx sl B a W) (k : Nat) {t : Nat} {φ ψ : Pr} (h : sl[k]? = some (t, φ)) (hi : ∀ v w, φ v w → ψ v w) : Sta w0 n bx (sl.set k (t, ψ)) B a W :=
 ⟨S.ent, S.bnd, S.siz, S.dfr, S.box, S.sep, fun x hx => by
  rcases List.mem_or_eq_of_mem_set hx with h1 | h1
  ·exact S.slt x h1
  ·subst h1
   exact fun w' e => hi _ _ (S.slt _ (List.mem_of_getElem? h) w' e)⟩
theorem Gives.two {φ φ' ψ : Nat → Pr} {w : World} {f : FuncId} {args : Array Value} (h : Calls Tryz.prog f args w (Gives (TWO φ ψ) w)) (k : ∀ v w', φ w.heap.size v w' → φ' w.heap.size v w') : Calls Tryz.prog f args w (Gives (TWO φ' ψ) w) := by
 refine h.mono ?_
 rintro e w' ⟨v, rfl, hb, x, y, rfl, h1, h2⟩
 exact ⟨_, rfl, hb, x, y, rfl, k _ _ h1, h2⟩
theorem zero_zn {lo : Nat} : ∀ v w, IS (.agg #[.bool false, .slice none 0 0]) lo v w → ZN 0 lo v w := fun v w e => ⟨none, 0, e, Sl.none w, fun b o h => nomatch h⟩
def PR (φ ψ : Pr) : Pr := fun v w => ∃ x0 x1 y0 y1, v = .agg #[x0, x1, y0, y1] ∧ φ (.agg #[x0, x1]) w ∧ ψ (.agg #[y0, y1]) w
def PRF (φ ψ : Nat → Pr) : Nat → Pr := fun lo => PR (φ lo) (ψ lo)
def RN (N : Int) (D : Nat) : Nat → Pr := PRF (ZN N) (ZN (D : Int))
theorem fresh_prf {φ ψ : Nat → Pr} (h : Fresh φ) (h' : Fresh ψ) : Fresh (PRF φ ψ) :=
 ⟨fun lo lo' v w hl ⟨x0, x1, y0, y1, e, a, b⟩ => ⟨x0, x1, y0, y1, e, h.mono _ _ _ _ hl a, h'.mono _ _ _ _ hl b⟩, fun lo v w w' B hB ⟨x0, x1, y0, y1, e, a, b⟩ ev => ⟨x0, x1, y0, y1, e, h.ev _ _ _ _ B hB a ev, h'.ev _ _ _ _ B hB b ev⟩⟩
theorem yk1 (N : Int) (D : Nat) : Fresh (RN N D) := fresh_prf (ya1 _) (ya1 _)
theorem pr_imp {φ ψ φ' ψ' : Pr} (h : ∀ v w, φ v w → φ' v w) (h' : ∀ v w, ψ v w → ψ' v w) : ∀ v w, PR φ ψ v w → PR φ' ψ' v w :=
 fun v w ⟨x0, x1, y0, y1, e, a, b⟩ => ⟨x0, x1, y0, y1, e, h _ _ a, h' _ _ b⟩
theorem zv_has {A : Int} {k : Nat} {u : Value} {w : World} (h : Zv A k u w) : Has (fun _ => False) w (Zv A k) u := fun w' e => by
 obtain ⟨s, p, n, c, xs, rfl, hs, hA, hn⟩ := h
 exact ⟨s, p, n, c, xs, rfl, ynt hs (fun _ _ _ _ h => h) e, hA, hn⟩
theorem pr_has {φ ψ : Pr} {u : Value} {w : World} (h : PR φ ψ u w) (h1 : ∀ v, φ v w → Has (fun _ => False) w φ v) (h2 : ∀ v, ψ v w → Has (fun _ => False) w ψ v) : Has (fun _ => False) w (PR φ ψ) u := fun w' e => by
 obtain ⟨x0, x1, y0, y1, rfl, a, b⟩ := h
 exact ⟨x0, x1, y0, y1, rfl, h1 _ a w' e, h2 _ b w' e⟩
abbrev Rv (A : Int) (D : Int) (k k' : Nat) : Pr := PR (Zv A k) (Zv D k')
theorem yjl {A D : Int} {k k' : Nat} {u : Value} {w : World} (h : Rv A D k k' u w) : Has (fun _ => False) w (Rv A D k k') u := pr_has h (fun _ => zv_has) (fun _ => zv_has)
theorem rn_rv {N : Int} {D lo k k' : Nat} (h : (digs N.natAbs).length ≤ k) (h' : (digs D).length ≤ k') : ∀ v w, RN N D lo v w → Rv N (D : Int) k k' v w :=
 pr_imp (ycy h) (ycy (by rw [Int.natAbs_natCast]; exact h'))
theorem zv_mono {A : Int} {k k' : Nat} (hk : k ≤ k') : ∀ v w, Zv A k v w → Zv A k' v w := fun v w ⟨s, p, n, c, xs, e, h, hA, hn⟩ => ⟨s, p, n, c, xs, e, h, hA, Nat.le_trans hn hk⟩
theorem zero_zv : ∀ v w, Is (.agg #[.bool false, .slice none 0 0]) v w → Zv 0 0 v w := fun v w e => ⟨false, none, 0, 0, [], e, Sl.none w, rfl, Nat.le_refl _⟩
theorem yka {x0 x1 : Value} {φ : Pr} {w : World} (h : Shp 2 φ) (hφ : φ (.agg #[x0, x1]) w) : x0.oneCell' = true ∧ x1.oneCell' = true := by
 obtain ⟨cs, e, _, h1⟩ := h _ w hφ
 simp only [Value.agg.injEq] at e
 subst e
 simpa using h1
theorem ych {φ ψ : Pr} (h : Shp 2 φ) (h' : Shp 2 ψ) : Shp 4 (PR φ ψ) := fun u w ⟨x0, x1, y0, y1, e, a, b⟩ => by
 have h1 := yka h a
 have h2 := yka h' b
 exact ⟨_, e, rfl, by simp [h1, h2]⟩
theorem ybr : Shp 4 zR := fun u w e => ⟨_, e, rfl, by simp [Value.oneCell']⟩
theorem yah : Strct 28 4 := ⟨⟨_, Tryz.underlying28, rfl⟩, by kernel_rfl⟩
theorem quad_cases {φ : Pr} (h : Shp 4 φ) {u : Value} {w : World} (hφ : φ u w) : ∃ x y z v, u = .agg #[x, y, z, v] := by
 obtain ⟨cs, rfl, hn, _⟩ := h u w hφ
 obtain ⟨l⟩ := cs
 match l, hn with
 | [x, y, z, v], _ => exact ⟨x, y, z, v, rfl⟩
theorem ybd (ρ : Operand → Value) (o : Oper) (w : World) : (execOp ρ { o with op := .alloc 28 }).run Tryz.prog w = .ok (.value (.pointer (some ⟨w.heap.size, 0, none⟩))) (w.alloc (.cells (Value.agg #[.bool false, .slice none 0 0, .bool false, .slice none 0 0]).cells 28 (0, 0))) := by
  unfold execOp
  go_simp
theorem yep {φ : Pr} (h : Shp 4 φ) (ρ : Operand → Value) (o : Oper) (x : Operand) (w : World) (hφ : φ (ρ x) w) : (execOp ρ { o with op := .box 28 x }).run Tryz.prog w = .ok (.value (.pointer (some ⟨w.heap.size, 0, none⟩))) (w.alloc (.cells (ρ x).cells 28 (0, 0))) := by
  obtain ⟨y, z, u, v, e⟩ := quad_cases h hφ
  clear hφ h
  rw [e]
  unfold execOp
  go_simp
theorem ydl (ρ : Operand → Value) (o : Oper) (x : Operand) (w : World) (b f : Nat) (h : ρ x = .pointer (some ⟨b, f, none⟩)) : (execOp ρ { o with op := .fieldAddr 28 x 0 }).run Tryz.prog w = .ok (.value (.pointer (some ⟨b, f, none⟩))) w := by
  unfold execOp
  go_simp
theorem ycj (ρ : Operand → Value) (o : Oper) (x : Operand) (w : World) (b f : Nat) (h : ρ x = .pointer (some ⟨b, f, none⟩)) : (execOp ρ { o with op := .fieldAddr 28 x 1 }).run Tryz.prog w = .ok (.value (.pointer (some ⟨b, f + 2, none⟩))) w := by
  unfold execOp
  go_simp
theorem ypn {ρ : Operand → Value} {o : Oper} {x : Operand} {w : World} {b off : Nat} {x0 x1 : Value} (hx : ρ x = .pointer (some ⟨b, off, none⟩)) (h0 : w.cell? ⟨b, off, none⟩ = some x0) (h1 : w.cell? ⟨b, off + 1, none⟩ = some x1) :
  (execOp ρ { o with op := .load 26 x }).run Tryz.prog w = .ok (.value (.agg #[x0, x1])) w := by
 obtain ⟨⟨d, hu, hd⟩, hi⟩ := yaj
 unfold execOp
 simp only [hx, Sem.run_bind, run_loadAt_mid (P := Tryz.prog) w b off 26 [x0, x1] d (fun j v hv => by
  match j, hv with
  | 0, hv => simp only [List.getElem?_cons_zero, Option.some.injEq] at hv; subst hv; exact h0
  | 1, hv => simp only [List.getElem?_cons_succ, List.getElem?_cons_zero, Option.some.injEq] at hv; subst hv; exact h1
  | j + 2, hv => simp at hv) hu hd (by rw [hi]; rfl), Result.andThen_ok, Sem.run_pure]
theorem yku {w : World} {b i : Nat} {cs : Array Value} {T : TypeId} (h : w.heap[b]? = some (.cells cs T (0, 0))) : w.cell? ⟨b, i, none⟩ = cs[i]? := by simp [World.cell?, h]
theorem ydm {φ ψ : Pr} (ρ : Operand → Value) (o : Oper) (x : Operand) (w : World) (b : Nat) (u : Value) (hφ : PR φ ψ u w) (hx : ρ x = .pointer (some ⟨b, 0, none⟩)) (hb : w.heap[b]? = some (.cells u.cells 28 (0, 0))) :
  ∃ v, (execOp ρ { o with op := .load 26 x }).run Tryz.prog w = .ok (.value v) w ∧ ∀ w', PR φ ψ u w' → φ v w' := by
 obtain ⟨x0, x1, y0, y1, rfl, a, b'⟩ := hφ
 refine ⟨.agg #[x0, x1], ypn hx ((yku hb).trans rfl) ((yku hb).trans rfl), fun w' h' => ?_⟩
 obtain ⟨a0, a1, b0, b1, e, ha, _⟩ := h'
 simp at e
 rw [e.1, e.2.1]
 exact ha
theorem yck {φ ψ : Pr} (ρ : Operand → Value) (o : Oper) (x : Operand) (w : World) (b : Nat) (u : Value) (hφ : PR φ ψ u w) (hx : ρ x = .pointer (some ⟨b, 2, none⟩)) (hb : w.heap[b]? = some (.cells u.cells 28 (0, 0))) :
  ∃ v, (execOp ρ { o with op := .load 26 x }).run Tryz.prog w = .ok (.value v) w ∧ ∀ w', PR φ ψ u w' → ψ v w' := by
 obtain ⟨x0, x1, y0, y1, rfl, a, b'⟩ := hφ
 refine ⟨.agg #[y0, y1], ypn hx ((yku hb).trans rfl) ((yku hb).trans rfl), fun w' h' => ?_⟩
 obtain ⟨a0, a1, b0, b1, e, _, ha⟩ := h'
 simp at e
 rw [e.2.2.1, e.2.2.2]
 exact ha
section
variable {ops : Array Oper} {l : List Kd} {bx : Bxs} {sl : List (Tmp × Pr)} {i : Nat} {o : Oper} {Q : Exit → Act → World → Prop} {a0 : Act} {n : Nat} {w0 : World}
theorem yc6 (ho : ops[i]? = some o) (hw : Wants ops l bx sl i o) (hop : o.op = .build 28 #[]) (hk : kdAt l i = .val zR) : Owed Tryz.prog ops Q l bx sl a0 n w0 i :=
  yhr ho hw hk fun vs B a w c => by
    unfold execOp
    rw [hop]
    generalize a.eval = ρ
    go_simp
end
theorem yko {t : Bool} {ys : List Nat} {D : Nat} (e : sg t (val ys) = (D : Int)) (hD : D ≠ 0) : t = false ∧ val ys = D := by
 cases t
 ·simp only [sg, Bool.false_eq_true, if_false] at e
  exact ⟨rfl, by omega⟩
 ·simp only [sg, if_true] at e
  omega
theorem yh6 {w : World} {A : Int} {D k k' f : Nat} {args : Array Value} (h : Calls Tryz.prog f args w (Rt w A D k k')) : Calls Tryz.prog f args w (Gives (RN A D) w) := by
 refine h.mono ?_
 rintro e w' ⟨b1, L1, D1, r1, k1, L2, r2, k2, rfl, hb, s1, s2, hN, hL1, hL2, f1, f2⟩
 have hl := s2.out.len
 refine ⟨_, rfl, hb, _, _, _, _, rfl, nm_zn hN.out s1.out f1.out, nm_zn ⟨?_, ?_, ?_⟩ s2.out f2.out⟩
 ·unfold ng; simp
 ·rw [Int.natAbs_natCast]
 ·exact hl
theorem rte_gives {w : World} {A : Int} {D k k' f : Nat} {args : Array Value} (h : Calls Tryz.prog f args w (RtE w A D k k')) : Calls Tryz.prog f args w (Gives (TWO (RN A D) (IS (.int .i64 0))) w) := by
 refine h.mono ?_
 rintro e w' ⟨b1, L1, D1, r1, k1, L2, r2, k2, rfl, hb, s1, s2, hN, hL1, hL2, f1, f2⟩
 have hl := s2.len
 refine ⟨_, rfl, hb, _, _, rfl, ⟨_, _, _, _, rfl, nm_zn hN s1 f1.out, nm_zn ⟨?_, ?_, ?_⟩ s2 f2.out⟩, rfl⟩
 ·unfold ng; simp
 ·rw [Int.natAbs_natCast]
 ·exact hl
theorem ymr {A : Int} {D k k' : Nat} (hD : D ≠ 0) (hk : k ≤ 67108864) (hk' : k' ≤ 67108864) : ∀ w u v, Zv A k u w → Zv (D : Int) k' v w → Calls Tryz.prog 20 #[u, v] w (Gives (TWO (RN (nR A D) (dR A D)) (IS (.int .i64 0))) w) := by
 rintro w u v ⟨s, p, n, c, xs, rfl, h, rfl, hn⟩ ⟨t, q, m, d, ys, rfl, h', eD, hm⟩
 obtain ⟨rfl, rfl⟩ := yko eD hD
 rw [nR_sg, dR_sg]
 exact rte_gives (yom w s p q n c m d xs ys h h' hD (by omega) (by omega))
theorem g_rradd {A N : Int} {D M k1 k2 k3 k4 : Nat} (hD : D ≠ 0) (hM : M ≠ 0) (b1 : k1 ≤ 8388608) (b2 : k2 ≤ 8388608) (b3 : k3 ≤ 8388608) (b4 : k4 ≤ 8388608) : ∀ w u v, Rv A (D : Int) k1 k2 u w → Rv N (M : Int) k3 k4 v w → Calls Tryz.prog 12 #[u, v] w (Gives (RN (nR (A * (M : Int) + N * (D : Int)) (D * M)) (dR (A * (M : Int) + N * (D : Int)) (D * M))) w) := by
 rintro w u v ⟨x0, x1, y0, y1, rfl, ⟨s, p, n, c, xs, ea, h, rfl, hn⟩, ⟨t, q, m, d, ys, eb, h', eD, hm⟩⟩ ⟨z0, z1, u0, u1, rfl, ⟨s', p', n', c', xs', ea', h2, rfl, hn'⟩, ⟨t', q', m', d', ys', eb', h2', eM, hm'⟩⟩
 simp at ea eb ea' eb'
 obtain ⟨rfl, rfl⟩ := ea
 obtain ⟨rfl, rfl⟩ := eb
 obtain ⟨rfl, rfl⟩ := ea'
 obtain ⟨rfl, rfl⟩ := eb'
 obtain ⟨rfl, rfl⟩ := yko eD hD
 obtain ⟨rfl, rfl⟩ := yko eM hM
 exact yh6 (rradd_c w s p n c xs q m d ys s' p' n' c' xs' q' m' d' ys' h h' h2 h2' hD hM _ _ rfl rfl (by omega) (by omega) (by omega) (by omega))
theorem g_rrsub {A N : Int} {D M k1 k2 k3 k4 : Nat} (hD : D ≠ 0) (hM : M ≠ 0) (b1 : k1 ≤ 8388608) (b2 : k2 ≤ 8388608) (b3 : k3 ≤ 8388608) (b4 : k4 ≤ 8388608) : ∀ w u v, Rv A (D : Int) k1 k2 u w → Rv N (M : Int) k3 k4 v w → Calls Tryz.prog 9 #[u, v] w (Gives (RN (nR (A * (dR (-N) M : Nat) + nR (-N) M * (D : Int)) (D * dR (-N) M)) (dR (A * (dR (-N) M : Nat) + nR (-N) M * (D : Int)) (D * dR (-N) M))) w) := by
 rintro w u v ⟨x0, x1, y0, y1, rfl, ⟨s, p, n, c, xs, ea, h, rfl, hn⟩, ⟨t, q, m, d, ys, eb, h', eD, hm⟩⟩ ⟨z0, z1, u0, u1, rfl, ⟨s', p', n', c', xs', ea', h2, rfl, hn'⟩, ⟨t', q', m', d', ys', eb', h2', eM, hm'⟩⟩
 simp at ea eb ea' eb'
 obtain ⟨rfl, rfl⟩ := ea
 obtain ⟨rfl, rfl⟩ := eb
 obtain ⟨rfl, rfl⟩ := ea'
 obtain ⟨rfl, rfl⟩ := eb'
 obtain ⟨rfl, rfl⟩ := yko eD hD
 obtain ⟨rfl, rfl⟩ := yko eM hM
 exact yh6 (rrsub_c w s p n c xs q m d ys s' p' n' c' xs' q' m' d' ys' h h' h2 h2' hD hM _ _ rfl rfl (by omega) (by omega) (by omega) (by omega))

section
variable {ops : Array Oper} {l : List Kd} {bx : Bxs} {sl : List (Tmp × Pr)} {i : Nat} {o : Oper} {Q : Exit → Act → World → Prop} {a0 : Act} {n : Nat} {w0 : World}
end
theorem yhp (P : Int) (Y : Nat) : nR P Y * (Y : Int) = P * (dR P Y : Int) := by
 have h1 := g_nR P Y
 have h2 := g_dR P Y
 have h3 : ((Nat.gcd P.natAbs Y : Nat) : Int) * (dR P Y : Int) = (Y : Int) := by rw [← Int.natCast_mul, h2]
 generalize ((Nat.gcd P.natAbs Y : Nat) : Int) = G at h1 h3
 grind
theorem nR_abs (P : Int) (Y : Nat) : (nR P Y).natAbs = P.natAbs / Nat.gcd P.natAbs Y := by unfold nR; rw [sg_abs]
theorem nR_len {P : Int} {Y k : Nat} (h : (digs P.natAbs).length ≤ k) : (digs (nR P Y).natAbs).length ≤ k := by
 rw [nR_abs]
 exact Nat.le_trans (yai (Nat.div_le_self _ _)) h
theorem dR_len {P : Int} {Y k : Nat} (h : (digs Y).length ≤ k) : (digs (dR P Y)).length ≤ k := by
 unfold dR
 exact Nat.le_trans (yai (Nat.div_le_self _ _)) h
theorem low_cop {P : Int} {Y : Nat} (hY : Y ≠ 0) : Nat.gcd (nR P Y).natAbs (dR P Y) = 1 := by
 rw [nR_abs]
 unfold dR
 have hg : 0 < Nat.gcd P.natAbs Y := Nat.gcd_pos_of_pos_right _ (by omega)
 exact Nat.gcd_div_gcd_div_gcd_of_pos_right (by omega)
theorem cross_eq {a b a' b' : Nat} (h : a * b' = a' * b) (c : Nat.gcd a b = 1) (c' : Nat.gcd a' b' = 1) (hb : b ≠ 0) : b = b' := by
 have h1 : b ∣ a * b' := ⟨a', by rw [h, Nat.mul_comm]⟩
 have h2 : b ∣ b' := Nat.Coprime.dvd_of_dvd_mul_left (Nat.Coprime.symm c) h1
 have h3 : b' ∣ a' * b := ⟨a, by rw [← h, Nat.mul_comm]⟩
 have h4 : b' ∣ b := Nat.Coprime.dvd_of_dvd_mul_left (Nat.Coprime.symm c') h3
 exact Nat.dvd_antisymm h2 h4
theorem low_one {P P' : Int} {Y Y' : Nat} (hY : Y ≠ 0) (hY' : Y' ≠ 0) (h : P * (Y' : Int) = P' * (Y : Int)) : nR P Y = nR P' Y' ∧ dR P Y = dR P' Y' := by
 have e1 := yhp P Y
 have e2 := yhp P' Y'
 have hy : (Y : Int) ≠ 0 := by omega
 have hy' : (Y' : Int) ≠ 0 := by omega
 have k : nR P Y * (dR P' Y' : Int) = nR P' Y' * (dR P Y : Int) := by
  have : ((Y : Int) * (Y' : Int)) * (nR P Y * (dR P' Y' : Int)) = ((Y : Int) * (Y' : Int)) * (nR P' Y' * (dR P Y : Int)) := by
   generalize nR P Y = n at *
   generalize nR P' Y' = n' at *
   generalize (dR P Y : Int) = d at *
   generalize (dR P' Y' : Int) = d' at *
   by_cases hP : P = 0
   ·have h0 : P' = 0 := by
     rw [hP, Int.zero_mul] at h
     rcases Int.mul_eq_zero.1 h.symm with h | h
     ·exact h
     ·exact absurd h hy
    have n0 : n = 0 := by
     rw [hP, Int.zero_mul] at e1
     rcases Int.mul_eq_zero.1 e1 with h | h
     ·exact h
     ·exact absurd h hy
    have n0' : n' = 0 := by
     rw [h0, Int.zero_mul] at e2
     rcases Int.mul_eq_zero.1 e2 with h | h
     ·exact h
     ·exact absurd h hy'
    rw [n0, n0']
    simp
   ·have : P * ((Y : Int) * (Y' : Int) * (n * d')) = P * ((Y : Int) * (Y' : Int) * (n' * d)) := by grind
    exact Int.eq_of_mul_eq_mul_left hP this
  exact Int.eq_of_mul_eq_mul_left (Int.mul_ne_zero hy hy') this
 have ka : (nR P Y).natAbs * dR P' Y' = (nR P' Y').natAbs * dR P Y := by
  have := congrArg Int.natAbs k
  simpa [Int.natAbs_mul] using this
 have hd := cross_eq ka (low_cop hY) (low_cop hY') (ye7 hY)
 refine ⟨?_, hd⟩
 rw [hd] at k
 exact Int.eq_of_mul_eq_mul_right (by have := ye7 (X := P') hY'; omega) k
theorem fr {P : Int} {Y : Nat} {n : Int} {d : Nat} (e1 : nR P Y = n) (e2 : dR P Y = d) : n * (Y : Int) = P * (d : Int) := by rw [← e1, ← e2]; exact yhp P Y
end Go.Proofs.YtdiagoaakadniaaGreat
