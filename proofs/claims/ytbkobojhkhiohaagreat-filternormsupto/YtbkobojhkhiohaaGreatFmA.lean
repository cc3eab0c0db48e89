import Derived.Test.YtbkobojhkhiohaaGreatGrA
set_option linter.all false
namespace Go.Proofs.YtbkobojhkhiohaaGreat
open Go Go.RowKit Nt
set_option maxRecDepth 20000
set_option maxHeartbeats 16000000
def TauOk (ts : List (Int × Int)) (τ : List Int) (dn : Nat) : Prop := (ts.length = 0 → ∀ j, τ.getD j 0 = 0) ∧ ∀ j, j < ts.length → τ.getD j 0 * (ts.getD j (0, 0)).2 = (ts.getD j (0, 0)).1 * (dn : Int)
theorem zdc {ts : List (Int × Int)} {n : Nat} (h : DenOk ts) : TauOk ts (tauL ts n) (cmN ts ts.length) := by
 refine ⟨fun h0 j => ?_, fun j hj => ?_⟩
 ·rw [tauL, if_pos h0, ze7, zg3]
  split <;> rfl
 ·rw [tauL, if_neg (by omega)]
  exact zev h hj
def plS (sh : List Int) (L : List (List Int)) (n i k s : Nat) : Int := sumZ (fbL sh L n i k) - sumZ (fbL sh L n i (k - s))
theorem pl_0 {sh : List Int} {L : List (List Int)} {n i k : Nat} : plS sh L n i k 0 = 0 := Int.sub_self _
theorem zb9 {sh : List Int} {L : List (List Int)} {n i k : Nat} : plS sh L n i k k = sumZ (fbL sh L n i k) := by
 rw [plS, zgd, fbL]
 show _ - 0 = _
 omega
theorem yy8 {sh : List Int} {L : List (List Int)} {n i k s : Nat} (hs : s < k) (hk : k < n) : plS sh L n i k s + sh.getD (k - 1 - s) 0 * (L.getD (n - 1 - k + 1 + s) []).getD i 0 = plS sh L n i k (s + 1) := by
 rw [plS, plS, show k - s = (k - 1 - s) + 1 by omega, show k - (s + 1) = k - 1 - s by omega, fbL, yi4, show n - 1 - (k - 1 - s) = n - 1 - k + 1 + s by omega]
 show _ = _
 have : ∀ z : Int, sumZ [z] = z := fun z => by show z + 0 = z; omega
 rw [this]
 omega
theorem zei {sh : List Int} {L : List (List Int)} {n i k s Ks K : Nat} (hs : Dl sh Ks) (hL : Mdl L K) : (digs (plS sh L n i k s).natAbs).length ≤ Ks + K + k + 1 := by
 have key : ∀ j, j ≤ k → (digs (sumZ (fbL sh L n i j)).natAbs).length ≤ Ks + K + k := fun j hj => by
  have q := yh3 (yl1 hs hL n i j) j
  rw [ze9 (by rw [yei]; omega)] at q
  omega
 exact yjb (key k (ze5 _)) (key _ (by omega))
theorem yzb {P P' : Int} {M : Nat} (hM : M ≠ 0) : QQ (P * (M : Int) + P' * (M : Int)) (M * M) = QQ (P + P') M := by
 refine yhs (zfu hM hM) hM ?_
 rw [zfh]
 generalize (M : Int) = m
 grind
theorem zeq {X dn T : Int} {d : Nat} (hd : d ≠ 0) (e : dn = (d : Int)) (hT : T = 0) : QQ X 1 = QQ (X * dn - T) d := by
 refine yhs Nat.one_ne_zero hd ?_
 rw [hT, e]
 simp
theorem zc2 {X p T : Int} {d q : Nat} (hd : d ≠ 0) (hq : q ≠ 0) (h : T * (q : Int) = p * (d : Int)) : QQ (X * (q : Int) + (-p) * ((1 : Nat) : Int)) (1 * q) = QQ (X * (d : Int) - T) d := by
 refine yhs (by omega) hd ?_
 rw [zgf, Int.sub_mul, h]
 generalize (q : Int) = q'
 generalize (d : Int) = d'
 simp only [Int.natCast_one]
 grind
theorem zex {S F D1 : Int} {d d1 : Nat} (hd : d ≠ 0) (h1 : d1 ≠ 0) (e : D1 = (d1 : Int)) : QQ (S * ((d * d1 : Nat) : Int) + F * (d : Int)) (d * (d * d1)) = QQ (S * D1 + F) (d * d1) := by
 refine yhs (zfu hd (zfu hd h1)) (zfu hd h1) ?_
 rw [e]
 simp only [zfh]
 generalize (d : Int) = d'
 generalize (d1 : Int) = d1'
 grind
def qF (D sh : List Int) (L : List (List Int)) (n d k : Nat) : Nat := d * d * ((fS D sh L n k).2.toNat * (fD D n k).toNat)
theorem ynw {D sh : List Int} {L : List (List Int)} (g : Good D L) {n d k : Nat} (hn : n = L.length) (hd : d ≠ 0) (hk : k ≤ n) : qF D sh L n d k ≠ 0 ∧ ((qF D sh L n d k : Nat) : Int) = (d : Int) * (d : Int) * ((fS D sh L n k).2 * fD D n k) := by
 have h1 := yl0 (sh := sh) g hn k hk
 have h2 := zau g hn k hk
 refine ⟨zfu (zfu hd hd) (zfu (by omega) (by omega)), ?_⟩
 rw [qF]
 simp only [zfh]
 rw [Int.toNat_of_nonneg (zhe h1), Int.toNat_of_nonneg (zhe h2)]
theorem yy6 {N R N' R' W F D0 D1 d : Int} (e : N' * (R * D1) = (N * D0 + R * (W * W)) * R') (h : F = D1 ∨ (N = 0 ∧ F = 1)) : (N * (d * D1 * (d * D1) * D0) + W * W * D1 * (d * d * (R * F))) * (d * d * (R' * D0)) = N' * ((d * d * (R * F)) * (d * D1 * (d * D1) * D0)) := by
 have a2 : N' * ((d * d * (R * F)) * (d * D1 * (d * D1) * D0)) = (N' * (R * D1)) * (d * d * d * d * F * D1 * D0) := by grind
 rw [a2, e]
 rcases h with h | ⟨h, h'⟩
 ·rw [h]; grind
 ·rw [h, h']; grind
theorem ysk {D sh : List Int} {L : List (List Int)} (g : Good D L) {n d k : Nat} (hn : n = L.length) (hd : d ≠ 0) (hk : k < n) : QQ ((fS D sh L n k).1 * ((d * dN D (n - 1 - k + 1) * (d * dN D (n - 1 - k + 1)) * dN D (n - 1 - k) : Nat) : Int) + fW D sh L n k * fW D sh L n k * D.getD (n - 1 - k + 1) 0 * ((qF D sh L n d k : Nat) : Int)) (qF D sh L n d k * (d * dN D (n - 1 - k + 1) * (d * dN D (n - 1 - k + 1)) * dN D (n - 1 - k))) = QQ (fS D sh L n (k + 1)).1 (qF D sh L n d (k + 1)) := by
 have hl := g.len
 obtain ⟨q0, e0⟩ := ynw (sh := sh) g hn hd (k := k) (by omega)
 obtain ⟨q1, e1⟩ := ynw (sh := sh) g hn hd (k := k + 1) (by omega)
 obtain ⟨h1, h2⟩ := ynj g (i := n - 1 - k) (by omega)
 obtain ⟨h3, h4⟩ := ynj g (i := n - 1 - k + 1) (by omega)
 refine yhs (zfu q0 (zfu (zfu (zfu hd h4) (zfu hd h4)) h2)) q1 ?_
 rw [zfh (qF D sh L n d k)]
 rw [e0, e1, show fD D n (k + 1) = D.getD (n - 1 - k) 0 from rfl]
 simp only [zfh]
 rw [← h1, ← h3]
 refine yy6 ?_ ?_
 ·rw [zaw]
  exact zb5 (by rw [h3]; omega)
 ·cases k with
  | zero => exact Or.inr ⟨rfl, rfl⟩
  | succ k => exact Or.inl (by rw [fD, show n - 1 - (k + 1) + 1 = n - 1 - k by omega])
theorem yxu {F T D1 p : Int} {d d1 q : Nat} (hd : d ≠ 0) (h1 : d1 ≠ 0) (hq : q ≠ 0) (e : D1 = (d1 : Int)) (h : T * (q : Int) = p * (d : Int)) : QQ (-F * (q : Int) + p * ((d * d1 : Nat) : Int)) (d * d1 * q) = QQ (T * D1 - F) (d * d1) := by
 refine yhs (zfu (zfu hd h1) hq) (zfu hd h1) ?_
 rw [e]
 simp only [zfh]
 have a1 : (T * (d1 : Int) - F) * ((d : Int) * (d1 : Int) * (q : Int)) = (T * (q : Int)) * ((d1 : Int) * (d : Int) * (d1 : Int)) - F * ((d : Int) * (d1 : Int) * (q : Int)) := by grind
 rw [a1, h]
 grind
theorem zcg {P : Int} {Q k : Nat} (hQ : Q ≠ 0) (b1 : (digs P.natAbs).length ≤ k) (b2 : (digs Q).length ≤ k) (hk : k ≤ 8388608) : ∀ w u lo, QQ P Q lo u w → CG 32 #[u] w (QQ (-P) Q) := fun w u lo h => by
 have hd := yeh (X := P) hQ
 refine Gives.cast (yyf (k := k) (k' := k) hd (by omega) (by omega) w u (yi6 b1 b2 _ _ h)) (yhs hd hQ ?_)
 have := ysz (P := P) hQ
 rw [zim, zim, this]
theorem ysd {N rn : Int} {q rd : Nat} (hq : q ≠ 0) : (nR N q * (rd : Int) - rn * ((dR N q : Nat) : Int)).sign = (N * (rd : Int) - rn * (q : Int)).sign := by
 have e1 := ygo N q
 have hd := yeh (X := N) hq
 have key : (nR N q * (rd : Int) - rn * ((dR N q : Nat) : Int)) * (q : Int) = (N * (rd : Int) - rn * (q : Int)) * ((dR N q : Nat) : Int) := by
  have a1 : (nR N q * (rd : Int) - rn * ((dR N q : Nat) : Int)) * (q : Int) = (nR N q * (q : Int)) * (rd : Int) - rn * ((dR N q : Nat) : Int) * (q : Int) := by grind
  rw [a1, e1]
  grind
 have h2 := congrArg Int.sign key
 rw [zis, zis, zf9 (show (0 : Int) < (q : Int) by omega), zf9 (show (0 : Int) < ((dR N q : Nat) : Int) by omega), Int.mul_one, Int.mul_one] at h2
 exact h2
def pw : Nat → Nat
 | 0 => 1
 | j + 1 => 2 * pw j
def hp : Nat → Nat
 | 0 => 0
 | j + 1 => pw j
def yS (T j : Nat) : Nat := T / pw j * pw j
theorem yhk : ∀ j, 0 < pw j
 | 0 => Nat.one_pos
 | j + 1 => by have := yhk j; rw [pw]; omega
theorem y_0 (T : Nat) : yS T 0 = T := by rw [yS, pw, zi2, zgv]
theorem y_le (T j : Nat) : yS T j ≤ T := zhq T (pw j)
theorem y_lt (T j : Nat) : T < yS T j + pw j := by
 have h := zf2 T (pw j)
 have h2 := zf3 T (yhk j)
 rw [yS, ze8]
 omega
theorem ze1 {T j : Nat} (h : T < pw j) : yS T (j + 1) = 0 := by
 rw [yS, zg1 (by rw [pw]; omega), ziz]
theorem yxh {T p q : Nat} (hp : 0 < p) (h1 : q * p ≤ T) (h2 : T < q * p + p) : T / p = q := by
 refine Nat.div_eq_of_lt_le h1 ?_
 rw [Nat.succ_mul]
 exact h2
theorem ze2 {T j : Nat} (h : yS T (j + 1) + pw j ≤ T) : yS T j = yS T (j + 1) + pw j := by
 have h2 := y_lt T (j + 1)
 have e : yS T (j + 1) = (T / pw (j + 1) * 2) * pw j := by rw [yS, pw, zfe]
 have h3 : T / pw j = T / pw (j + 1) * 2 + 1 := yxh (yhk j) (by rw [zfo, zgf, ← e]; exact h) (by
  rw [zfo, zgf, ← e]
  rw [show pw (j + 1) = 2 * pw j from rfl] at h2
  omega)
 rw [show yS T j = T / pw j * pw j from rfl, h3, zfo, zgf, ← e]
theorem y_no {T j : Nat} (h : T < yS T (j + 1) + pw j) : yS T j = yS T (j + 1) := by
 have h2 := y_le T (j + 1)
 have e : yS T (j + 1) = (T / pw (j + 1) * 2) * pw j := by rw [yS, pw, zfe]
 have h3 : T / pw j = T / pw (j + 1) * 2 := yxh (yhk j) (by rw [← e]; exact h2) (by rw [← e]; exact h)
 rw [show yS T j = T / pw j * pw j from rfl, h3, ← e]
theorem zc9 (σ : Int) (j : Nat) : σ * ((pw j : Nat) : Int) + σ * ((pw j : Nat) : Int) = σ * ((pw (j + 1) : Nat) : Int) := by
 rw [show pw (j + 1) = 2 * pw j from rfl, zfh]
 generalize ((pw j : Nat) : Int) = p
 grind
theorem ytz (z σ : Int) (y p : Nat) : z + σ * ((y : Nat) : Int) + σ * ((p : Nat) : Int) = z + σ * ((y + p : Nat) : Int) := by
 rw [zha]
 grind
theorem zbl {σ : Int} (hσ : σ = 1 ∨ σ = -1) (j : Nat) : (σ * ((hp (j + 1) : Nat) : Int)).sign ≠ 0 := by
 have h := yhk j
 rw [zis, zf9 (show (0 : Int) < ((hp (j + 1) : Nat) : Int) by show (0 : Int) < ((pw j : Nat) : Int); omega), Int.mul_one]
 rcases hσ with rfl | rfl <;> decide
theorem za5 (p : Nat) : fl ((2 * p : Nat) : Int) 2 = ((p : Nat) : Int) := by rw [show ((2 * p : Nat) : Int) = (p : Int) * 2 by omega, za3 (by decide)]
theorem yr8 (j : Nat) : fl ((pw j : Nat) : Int) 2 = ((hp j : Nat) : Int) := by
 cases j with
 | zero => rfl
 | succ j => exact za5 (pw j)
def EZ (zv : Value) (zz σ : Int) (y K : Nat) (lo : Nat) : Pr := fun v w => (v = zv ∧ y = 0 ∧ Zv zz K v w) ∨ ZN (zz + σ * ((y : Nat) : Int)) lo v w
def OZ (zv : Value) (zz σ : Int) (y : Nat) : Nat → Pr := fun lo v w => (v = zv ∧ y = 0) ∨ ZN (zz + σ * ((y : Nat) : Int)) lo v w
theorem zdv {zv : Value} {zz σ : Int} {y K lo : Nat} : ∀ v w, EZ zv zz σ y K lo v w → OZ zv zz σ y lo v w := fun v w h => h.imp (fun h => ⟨h.1, h.2.1⟩) id
theorem yx4 {zv : Value} {zz σ : Int} {y K lo : Nat} (hb : (digs (zz + σ * ((y : Nat) : Int)).natAbs).length ≤ K) : ∀ v w, EZ zv zz σ y K lo v w → Zv (zz + σ * ((y : Nat) : Int)) K v w := fun v w h => by
 rcases h with ⟨_, h, h2⟩ | h
 ·rw [h, show zz + σ * ((0 : Nat) : Int) = zz by simp]
  exact h2
 ·exact ya4 hb v w h
theorem yuz {zv : Value} {zz σ : Int} {K lo y : Nat} (hy : y = 0) : ∀ v w, PI zv (Zv zz K) v w → EZ zv zz σ y K lo v w := fun v w h => Or.inl ⟨h.1, hy, h.2⟩
theorem zdw {zv : Value} {zz σ : Int} {K lo y : Nat} : ∀ v w, ZN (zz + σ * ((y : Nat) : Int)) lo v w → EZ zv zz σ y K lo v w := fun v w h => Or.inr h
theorem yi2 {zv : Value} {zz σ : Int} {K lo y : Nat} : Shp 2 (EZ zv zz σ y K lo) := fun v w h => by
 rcases h with ⟨_, _, h⟩ | h
 ·exact yak v w h
 ·exact yah v w h
theorem ylk {zv : Value} {A : Int} {K : Nat} : Shp 2 (PI zv (Zv A K)) := fun v w h => yak v w h.2
theorem yn6 {s : Bool} {p : Option Addr} {n c : Nat} : Shp 2 (Is (.agg #[.bool s, .slice p n c])) := fun u w e => ⟨_, e, rfl, by simp [Value.oneCell']⟩
section
variable {ops : Array Oper} {l : List Kd} {bx : Bxs} {sl : List (Tmp × Pr)} {i : Nat} {o : Oper} {Q : Exit → Act → World → Prop} {a0 : Act} {n0 : Nat} {w0 : World}
theorem yjm {f : FuncId} {x1 x2 x3 x4 x5 x6 : Operand} {φ1 φ2 φ3 φ4 φ5 φ6 χ : Pr} {ts : Array TypeId} (ho : ops[i]? = some o) (hw : Wants ops l bx sl i o) (hop : o.op = .call { callee := .value (.func f), args := #[x1, x2, x3, x4, x5, x6], argTypes := ts }) (h1 : Opnd ops l bx sl i x1 φ1) (h2 : Opnd ops l bx sl i x2 φ2) (h3 : Opnd ops l bx sl i x3 φ3) (h4 : Opnd ops l bx sl i x4 φ4) (h5 : Opnd ops l bx sl i x5 φ5) (h6 : Opnd ops l bx sl i x6 φ6) (hk : kdAt l i = .val χ) (hcf : ∀ args w, (callFunc f args).run Tryz.prog w = .ok (.enter f args) w)
  (C : ∀ (B : Nat → Prop) w u1 u2 u3 u4 u5 u6, w0.heap.size ≤ w.heap.size → (∀ k, B k → k < w.heap.size) → Has B w φ1 u1 → Has B w φ2 u2 → Has B w φ3 u3 → Has B w φ4 u4 → Has B w φ5 u5 → Has B w φ6 u6 → Calls Tryz.prog f #[u1, u2, u3, u4, u5, u6] w fun e w' => ∃ r, e = .returned r ∧ Below w.heap.size w w' ∧ Has B w' χ r) : Owed Tryz.prog ops Q l bx sl a0 n0 w0 i :=
 yim ho hw hop hk hcf fun vs B a w c => by
  rw [show (#[x1, x2, x3, x4, x5, x6] : Array Operand).map a.eval = #[a.eval x1, a.eval x2, a.eval x3, a.eval x4, a.eval x5, a.eval x6] from by simp]
  exact C B w _ _ _ _ _ _ c.lo (fun k hk => (c.bnd k hk).2) (h1 a0 n0 w0 vs B a w c) (h2 a0 n0 w0 vs B a w c) (h3 a0 n0 w0 vs B a w c) (h4 a0 n0 w0 vs B a w c) (h5 a0 n0 w0 vs B a w c) (h6 a0 n0 w0 vs B a w c)
end
theorem zbh {N R D0 D1 N' R' W dn rn rd : Int} (e : N' * (R * D1) = (N * D0 + R * (W * W)) * R') (hRD : 0 < R * D1) (hR' : 0 < R') : N' * rd ≤ rn * (dn * dn * (R' * D0)) ↔ W * W * (rd * R) ≤ (rn * (dn * dn) * (D1 * R) - N * rd) * D0 := by
 have key : (rn * (dn * dn * (R' * D0)) - N' * rd) * (R * D1) = ((rn * (dn * dn) * (D1 * R) - N * rd) * D0 - W * W * (rd * R)) * R' := by
  have a1 : (rn * (dn * dn * (R' * D0)) - N' * rd) * (R * D1) = rn * (dn * dn * (R' * D0)) * (R * D1) - (N' * (R * D1)) * rd := by grind
  rw [a1, e]
  grind
 constructor
 ·intro h
  have h1 : 0 ≤ (rn * (dn * dn * (R' * D0)) - N' * rd) * (R * D1) := zg2 (Int.sub_nonneg_of_le h) (zhe hRD)
  rw [key] at h1
  exact Int.le_of_sub_nonneg (Int.nonneg_of_mul_nonneg_left h1 hR')
 ·intro h
  have h1 : 0 ≤ ((rn * (dn * dn) * (D1 * R) - N * rd) * D0 - W * W * (rd * R)) * R' := zg2 (Int.sub_nonneg_of_le h) (zhe hR')
  rw [← key] at h1
  exact Int.le_of_sub_nonneg (Int.nonneg_of_mul_nonneg_left h1 hRD)
theorem yl4 {q A B : Int} (hB : 0 < B) : q ≤ fl A B ↔ q * B ≤ A := by
 rw [fl, if_pos hB]
 exact Int.le_ediv_iff_mul_le hB
theorem yw6 : ∀ X, ∃ R, IsRoot X R
 | 0 => ⟨0, by unfold IsRoot; omega⟩
 | X + 1 => by
  obtain ⟨R, h1, h2⟩ := yw6 X
  by_cases h : (R + 1) * (R + 1) ≤ X + 1
  ·refine ⟨R + 1, h, ?_⟩
   have : (R + 1) * (R + 1) < (R + 1 + 1) * (R + 1 + 1) := Nat.mul_self_lt_mul_self (by omega)
   omega
  ·exact ⟨R, by omega, by omega⟩
theorem ypo (X : Nat) : IsRoot X (rt X) := by
 obtain ⟨R, h⟩ := yw6 X
 rw [zcs h]
 exact h
theorem zcw (X : Nat) : rt X ≤ X := by
 have h := (ypo X).1
 rcases Nat.eq_zero_or_pos (rt X) with h0 | h0
 ·omega
 ·exact ze6 (Nat.le_mul_of_pos_left _ h0) h
theorem zcn {a cn cd W sq : Int} {ρ : Nat} (hcd : 0 < cd) (eW : a * cd - cn = W) (h1 : ρ * ρ ≤ sq.natAbs) (h2 : sq.natAbs < (ρ + 1) * (ρ + 1)) (hs : 0 ≤ sq) : W * W ≤ sq ↔ -fl ((ρ : Int) - cn) cd ≤ a ∧ a ≤ fl (cn + (ρ : Int)) cd := by
 have e1 : W * W ≤ sq ↔ W.natAbs ≤ ρ := by
  have e2 := zir (a := W)
  constructor
  ·intro h
   rcases zge ρ W.natAbs with h3 | h3
   ·exfalso
    have h4 : (ρ + 1) * (ρ + 1) ≤ W.natAbs * W.natAbs := zgr h3 h3
    omega
   ·exact h3
  ·intro h
   have h4 : W.natAbs * W.natAbs ≤ ρ * ρ := zgr h h
   omega
 have e3 : -fl ((ρ : Int) - cn) cd ≤ a ↔ -a * cd ≤ (ρ : Int) - cn := by
  rw [← yl4 hcd]
  omega
 rw [e1, e3, yl4 hcd]
 rw [zim]
 generalize a * cd = z at *
 omega
theorem za4 {A B : Int} (hA : 0 ≤ A) (hB : 0 < B) : 0 ≤ fl A B := by rw [yl4 hB]; omega
theorem zav {D sh : List Int} {L : List (List Int)} (g : Good D L) {n : Nat} (hn : n = L.length) : ∀ k, k ≤ n → 0 ≤ (fS D sh L n k).1
 | 0, _ => zi3 _
 | k + 1, h => by
  have ih := zav (sh := sh) g hn k (by omega)
  have p := yl0 (sh := sh) g hn k (by omega)
  have hl := g.len
  have hM : 0 ≤ fM D sh L n k (fS D sh L n k) := Int.add_nonneg (zg2 ih (zhe (g.d _ (by omega)))) (zg2 (zhe p) (zc8 _))
  rw [fS]
  split
  ·exact za4 hM (g.d _ (by omega))
  ·exact hM
theorem zes {sq rd R N Y D1 D0 lf : Int} (elf : Y * (D1 * R) - N * rd = lf) (hN : 0 ≤ N) (hrd : 0 < rd) (hR : 0 < R) (hD0 : 0 < D0) (hs : 0 ≤ sq) (h : sq * (rd * R) ≤ lf * D0) : sq ≤ Y * D1 * D0 := by
 have h1 : sq * R ≤ sq * (rd * R) := by
  refine Int.mul_le_mul_of_nonneg_left ?_ hs
  have : 1 * R ≤ rd * R := Int.mul_le_mul_of_nonneg_right (by omega) (zhe hR)
  omega
 have h2 : lf * D0 ≤ (Y * D1 * D0) * R := by
  have h3 : 0 ≤ N * rd * D0 := zg2 (zg2 hN (zhe hrd)) (zhe hD0)
  rw [← elf]
  have e : (Y * (D1 * R) - N * rd) * D0 = Y * D1 * D0 * R - N * rd * D0 := by grind
  rw [e]
  omega
 exact Int.le_of_mul_le_mul_right (Int.le_trans h1 (Int.le_trans h h2)) hR
theorem zcf {D sh : List Int} {L : List (List Int)} {n d k bd bR bD : Nat} (h1 : (digs d).length ≤ bd) (h2 : (digs (fS D sh L n k).2.natAbs).length ≤ bR) (h3 : (digs (fD D n k).natAbs).length ≤ bD) : (digs (qF D sh L n d k)).length ≤ bd + bd + (bR + bD) := by
 rw [qF]
 exact yam (yam h1 h1) (yam (ze6 (yae (by omega)) h2) (ze6 (yae (by omega)) h3))
theorem zat {D : List Int} {n K : Nat} (h : Dl D K) : ∀ k, (digs (fD D n k).natAbs).length ≤ K + 1
 | 0 => by show (digs (1 : Int).natAbs).length ≤ _; have : (digs (1 : Int).natAbs).length ≤ 1 := yhh; omega
 | k + 1 => ze6 (ybq h _) (by omega)
theorem yy9 {D sh : List Int} {L : List (List Int)} (g : Good D L) {n d k q : Nat} (hn : n = L.length) (hd : d ≠ 0) (hk : k ≤ n) (h : (d : Int) * (d : Int) * ((fS D sh L n k).2 * D.getD (n - k) 0) = (q : Int)) (hq : q ≠ 0) : QQ (fS D sh L n k).1 (qF D sh L n d k) = QQ (fS D sh L n k).1 q := by
 obtain ⟨h1, h2⟩ := ynw (sh := sh) g hn hd hk
 cases k with
 | zero => exact (ykz h1).symm.trans (ykz hq)
 | succ k =>
  congr 1
  have e : ((qF D sh L n d (k + 1) : Nat) : Int) = (q : Int) := by rw [h2, ← h, show fD D n (k + 1) = D.getD (n - (k + 1)) 0 from by rw [fD, show n - 1 - k = n - (k + 1) by omega]]
  omega
theorem za0 {x : List Int} {a dn T0 D1 cn cd W : Int} {τ D : List Int} {L : List (List Int)} {n m : Nat} (lx : x.length = m) (hm : m < n) (eT : τ.getD (n - 1 - m) 0 = T0) (eD1 : D.getD (n - 1 - m + 1) 0 = D1) (ecn : T0 * D1 - fB (shL x dn τ n m) L n m = cn) (ecd : dn * D1 = cd) (eW : a * cd - cn = W) : fW D (shL (x ++ [a]) dn τ n (m + 1)) L n m = W := by
 rw [fW, yfl (by omega), ykk lx, eT, eD1, ← eW, ← ecn, ← ecd, fB, if_neg (by omega), ygl (sh := shL (x ++ [a]) dn τ n (m + 1)) (sh' := shL x dn τ n m) (fun j hj => by rw [yfl (by omega), yfl (by omega), yh0 lx (by omega)])]
 grind
theorem zaz {x : List Int} {a dn : Int} {τ D : List Int} {L : List (List Int)} {n m k : Nat} (lx : x.length = m) (hk : k < m) : fW D (shL (x ++ [a]) dn τ n (m + 1)) L n k = fW D (shL x dn τ n m) L n k :=
 you (fun j hj => by rw [yfl (by omega), yfl (by omega), yh0 lx (by omega)])
theorem ywk {D : List Int} {L : List (List Int)} {x τ : List Int} {dn T0 D0 D1 cn cd : Int} {nL m : Nat} {a : Int} (g : Good D L) (hn : nL = L.length) (lx : x.length = m) (hm : m < nL) (eT : τ.getD (nL - 1 - m) 0 = T0) (eD0 : D.getD (nL - 1 - m) 0 = D0) (eD1 : D.getD (nL - 1 - m + 1) 0 = D1) (ecn : T0 * D1 - fB (shL x dn τ nL m) L nL m = cn) (ecd : dn * D1 = cd)
  (b0 : (digs D0.natAbs).length ≤ 1048576) (b1 : (digs D1.natAbs).length ≤ 1048576) (hN : (digs (fS D (shL x dn τ nL m) L nL m).1.natAbs).length ≤ 5242890) (hR : (digs (fS D (shL x dn τ nL m) L nL m).2.natAbs).length ≤ 1048577) (hW : (digs (a * cd - cn).natAbs).length ≤ 3145820) :
  (fS D (shL (x ++ [a]) dn τ nL (m + 1)) L nL (m + 1)).1 * ((fS D (shL x dn τ nL m) L nL m).2 * D1) = ((fS D (shL x dn τ nL m) L nL m).1 * D0 + (fS D (shL x dn τ nL m) L nL m).2 * ((a * cd - cn) * (a * cd - cn))) * (fS D (shL (x ++ [a]) dn τ nL (m + 1)) L nL (m + 1)).2 ∧ 0 < (fS D (shL (x ++ [a]) dn τ nL (m + 1)) L nL (m + 1)).2
  ∧ (digs (fS D (shL (x ++ [a]) dn τ nL (m + 1)) L nL (m + 1)).1.natAbs).length ≤ 8388608 ∧ (digs (fS D (shL (x ++ [a]) dn τ nL (m + 1)) L nL (m + 1)).2.natAbs).length ≤ 2097154 := by
 have hg := yx6 (a := a) lx hm eT eD0 eD1 ecn ecd rfl
 have h1 : D1 ≠ 0 := by rw [← eD1]; exact Int.ne_of_gt (g.d _ (by have := g.len; omega))
 have hb := zb3 (R := (fS D (shL x dn τ nL m) L nL m).2) h1 (k := 7340218) (yf5 (k := 7340217) (ze6 (yco hN b0) (by omega)) (ze6 (yco hR (yco hW hW)) (by omega))) hR b1
 rw [← hg] at hb
 refine ⟨?_, yl0 g hn _ (by omega), by omega, by omega⟩
 rw [hg]
 exact zb5 h1
end Go.Proofs.YtbkobojhkhiohaaGreat
