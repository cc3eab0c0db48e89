import Derived.Test.YtoeopdmaogmjhaaGrA
import Derived.Test.YtoeopdmaogmjhaaGrB
import Derived.Test.YtoeopdmaogmjhaaJaE
import Derived.Test.YtoeopdmaogmjhaaSetL
/-
 FilterGrows: all cases.
-/
namespace Go.Proofs.Ytoeopdmaogmjhaa
open Go Go.RowKit Nt
set_option linter.unusedSimpArgs false
set_option linter.unusedVariables false
set_option maxRecDepth 20000

theorem nat_of {z : Int} {k : Nat} (h : 0 < z) (hz : (digs z.natAbs).length ≤ k) : z = ((z.toNat : Nat) : Int) ∧ z.toNat ≠ 0 ∧ (digs z.toNat).length ≤ k := by
 refine ⟨(Int.toNat_of_nonneg (Int.le_of_lt h)).symm, by omega, ?_⟩
 rw [show z.toNat = z.natAbs by omega]
 exact hz
theorem dl_app {x : List Int} {a : Int} {k : Nat} (hx : Dl x k) (ha : (digs a.natAbs).length ≤ k) : Dl (x ++ [a]) k := fun i z hz => by
 rcases Nat.lt_or_ge i x.length with h | h
 ·rw [List.getElem?_append_left h] at hz
  exact hx i z hz
 ·rw [List.getElem?_append_right h] at hz
  match i - x.length, hz with
  | 0, hz => simp at hz; subst hz; exact ha
  | j + 1, hz => simp at hz
/-- Signs of fractions in lowest terms. -/
theorem low_nn {N N' : Int} {q q' : Nat} (hq : q ≠ 0) (hq' : q' ≠ 0) (h : 0 ≤ N * (q' : Int) - N' * (q : Int)) : 0 ≤ (nR N q * ((dR N' q' : Nat) : Int) - nR N' q' * ((dR N q : Nat) : Int)).sign := by
 have e1 := nR_mul N q
 have e2 := nR_mul N' q'
 have key : (nR N q * ((dR N' q' : Nat) : Int) - nR N' q' * ((dR N q : Nat) : Int)) * ((q : Int) * (q' : Int)) = (N * (q' : Int) - N' * (q : Int)) * (((dR N q : Nat) : Int) * ((dR N' q' : Nat) : Int)) := by
  have a1 : (nR N q * ((dR N' q' : Nat) : Int) - nR N' q' * ((dR N q : Nat) : Int)) * ((q : Int) * (q' : Int)) = (nR N q * (q : Int)) * (((dR N' q' : Nat) : Int) * (q' : Int)) - (nR N' q' * (q' : Int)) * (((dR N q : Nat) : Int) * (q : Int)) := by grind
  rw [a1, e1, e2]
  grind
 have hn : 0 ≤ (nR N q * ((dR N' q' : Nat) : Int) - nR N' q' * ((dR N q : Nat) : Int)) * ((q : Int) * (q' : Int)) := by
  rw [key]
  exact Int.mul_nonneg h (Int.mul_nonneg (Int.natCast_nonneg _) (Int.natCast_nonneg _))
 have := Int.nonneg_of_mul_nonneg_left hn (Int.mul_pos (by omega) (by omega))
 rcases Int.lt_or_eq_of_le this with h1 | h1
 ·rw [Int.sign_eq_one_of_pos h1]; decide
 ·rw [← h1]; decide
theorem sign_le0 {z : Int} (h : z ≤ 0) : z.sign ≤ 0 := by
 rcases Int.lt_or_eq_of_le h with h | h
 ·rw [Int.sign_eq_neg_one_of_neg h]; decide
 ·rw [h]; decide
section
variable {D : List Int} {L : List (List Int)} {x τ : List Int} {dn T0 D0 D1 cn cd : Int} {nL m : Nat}
/-- What a row more brings, with all that the calls ask. -/
structure GrOk (D : List Int) (L : List (List Int)) (x τ : List Int) (dn D0 D1 cn cd : Int) (nL m : Nat) (a : Int) : Prop where
 e : (fS D (shL (x ++ [a]) dn τ nL (m + 1)) L nL (m + 1)).1 * ((fS D (shL x dn τ nL m) L nL m).2 * D1) = ((fS D (shL x dn τ nL m) L nL m).1 * D0 + (fS D (shL x dn τ nL m) L nL m).2 * ((a * cd - cn) * (a * cd - cn))) * (fS D (shL (x ++ [a]) dn τ nL (m + 1)) L nL (m + 1)).2
 p : 0 < (fS D (shL (x ++ [a]) dn τ nL (m + 1)) L nL (m + 1)).2
 bN : (digs (fS D (shL (x ++ [a]) dn τ nL (m + 1)) L nL (m + 1)).1.natAbs).length ≤ 8388608
 bR : (digs (fS D (shL (x ++ [a]) dn τ nL (m + 1)) L nL (m + 1)).2.natAbs).length ≤ 2097154
 hN : ∀ k, k ≤ m + 1 → (digs (fS D (shL (x ++ [a]) dn τ nL (m + 1)) L nL k).1.natAbs).length ≤ 67108864
 hR : ∀ k, k ≤ m + 1 → (digs (fS D (shL (x ++ [a]) dn τ nL (m + 1)) L nL k).2.natAbs).length ≤ 67108864
theorem gr_ok {a : Int} (g : Good D L) (hn : nL = L.length) (lx : x.length = m) (hm : m < nL) (eT : τ.getD (nL - 1 - m) 0 = T0) (eD0 : D.getD (nL - 1 - m) 0 = D0) (eD1 : D.getD (nL - 1 - m + 1) 0 = D1) (ecn : T0 * D1 - fB (shL x dn τ nL m) L nL m = cn) (ecd : dn * D1 = cd)
  (b0 : (digs D0.natAbs).length ≤ 1048576) (b1 : (digs D1.natAbs).length ≤ 1048576) (hN : ∀ k, k ≤ m → (digs (fS D (shL x dn τ nL m) L nL k).1.natAbs).length ≤ 5242890) (hR : ∀ k, k ≤ m → (digs (fS D (shL x dn τ nL m) L nL k).2.natAbs).length ≤ 1048577) (hW : (digs (a * cd - cn).natAbs).length ≤ 1048580) : GrOk D L x τ dn D0 D1 cn cd nL m a := by
 have hg := fS_grow (a := a) lx hm eT eD0 eD1 ecn ecd rfl
 have h1 : D1 ≠ 0 := by rw [← eD1]; exact Int.ne_of_gt (g.d _ (by have := g.len; omega))
 have hb := nx_dl (R := (fS D (shL x dn τ nL m) L nL m).2) h1 (k := 6291480) (dl_add (k := 6291479) (Nat.le_trans (dl_mul (hN m (Nat.le_refl _)) b0) (by omega)) (Nat.le_trans (dl_mul (hR m (Nat.le_refl _)) (dl_mul hW hW)) (by omega))) (hR m (Nat.le_refl _)) b1
 rw [← hg] at hb
 refine ⟨?_, fS_pos g hn _ (by omega), by omega, by omega, fun k hk => ?_, fun k hk => ?_⟩
 ·rw [hg]
  exact nx_is h1
 ·rcases Nat.lt_or_ge m k with h | h
  ·obtain rfl : k = m + 1 := by omega
   omega
  ·rw [fS_pre lx h]
   have := hN k h
   omega
 ·rcases Nat.lt_or_ge m k with h | h
  ·obtain rfl : k = m + 1 := by omega
   omega
  ·rw [fS_pre lx h]
   have := hR k h
   omega
end

set_option maxHeartbeats 4000000 in
theorem grow_all (w : World) (u t v z : Value) (nD nL nT m Ka : Nat) (D : List Int) (L : List (List Int)) (ts : List (Int × Int)) (es : List El) (a : Int) (h : Hs w (SF [Vv nD D 1048576, Mv nL L 1048576]) u) (ht : Hs w (QV nT ts 1048576) t) (hv : Hs w (Vx m es) v) (hz : Hs w (Zv a Ka) z) (hD : nD ≤ 1048576) (hL : nL ≤ 1048576) (hT : nT ≤ 1048576) (hm0 : m ≤ 1048575) (lD : D.length = nD) (lL : L.length = nL) (lT : ts.length = nT) (le : es.length = m)
  (A S Kx Kd : Nat) (J : Kx + m + (A + S) + Kd + Ka + 3 ≤ 1048577) (hen : ∀ (i : Nat) e, es[i]? = some e → e.n ≤ Kx) (hC : ∀ (i : Nat) e, es[i]? = some e → e.c ≤ 35184372087808) (dD : Dl D Kd) (dL : Mdl L Kd) (hnum : ∀ i, i < ts.length → (digs (ts.getD i (0, 0)).1.natAbs).length ≤ A) (hds : dsum ts ts.length ≤ S) (hwt : wtD D (nL + 1) ≤ Kd) :
  Calls Try.prog 3 #[u, t, v, z] w (Gives (IS (.bool true)) w) := by
 have lx : (es.map El.z).length = m := by simpa using le
 have hen' : ∀ (i : Nat) e, es[i]? = some e → e.n ≤ 1048576 := fun i e he => Nat.le_trans (hen i e he) (by omega)
 have dx : Dl (es.map El.z) Kx := vv_dl (vx_vv hen _ w hv.now)
 have dz : (digs a.natAbs).length ≤ Ka := zv_dl hz.now
 rcases fref_or D L ts [] m with g | ⟨e0, he, r⟩
 rotate_left
 ·exact fgr_e w u t v z nD nL nT 1048576 1048576 m 1048576 Ka D L ts es a h ht hv hz hm0 (by omega) (by omega) hen' hC e0 he
   (fun w u t v h ht hv => fnm_e w u t v nD nL nT 1048576 1048576 m 1048576 D L ts _ h ht hv hD hL hT (by omega) (by omega) (by omega) (by omega) lD lL lT lx e0 he r)
   (fun w u t v h ht hv => fct_e w u t v nD nL nT 1048576 1048576 m 1048576 D L ts _ h ht hv hD hL hT (by omega) (by omega) (by omega) (by omega) lD lL lT lx e0 he r)
 have hgl := g.g.len
 have hgm := g.m
 have ok := g.t
 have hTL : nT = 0 ∨ nT = nL := by
  have hq := g.len
  omega
 have lτ : (tauL ts nL).length = nL := tau_len (by rcases g.len with h | h <;> omega)
 have hof := of_H (nD := nD) (nL := nL) (K := 1048576) (Kt := 1048576) (K2 := 16777216) (D := D) (L := L) hL hT (by omega) lT ok (by rw [← lT]; omega) hTL (by omega) (by omega)
 have hdn0 : cmN ts nT ≠ 0 := cm_ne ok nT (by omega)
 have hdl : (digs (((cmN ts nT : Nat) : Int)).natAbs).length ≤ S := by rw [Int.natAbs_natCast, ← lT]; exact Nat.le_trans (cm_len ok _ (Nat.le_refl _)) hds
 have dτ : Dl (tauL ts nL) (A + S) := tau_dl ok hnum hds (Nat.le_refl _)
 have hdp : 0 < ((cmN ts nT : Nat) : Int) := by omega
 generalize ((cmN ts nT : Nat) : Int) = dn at hof hdl hdp
 generalize tauL ts nL = τ at hof lτ dτ
 generalize hxx : es.map El.z = x at lx dx
 have hnL : nL = L.length := lL.symm
 have hsx : ∀ M, Dl (shL x dn τ nL M) (Kx + (A + S) + 1) := fun M => shL_dl dx dτ (by omega) M
 have hwt0 : wtD D nL ≤ wtD D (nL + 1) := by rw [wtD_s]; omega
 have hS := fS_wt (m := m) (sh := shL x dn τ nL m) g.g hnL (by omega) dD dL (hsx m) (W := 1048576) (by omega)
 have hN : ∀ k, k ≤ m → (digs (fS D (shL x dn τ nL m) L nL k).1.natAbs).length ≤ 5242890 := fun k hk => by have := (hS k hk).2; omega
 have hR : ∀ k, k ≤ m → (digs (fS D (shL x dn τ nL m) L nL k).2.natAbs).length ≤ 1048577 := fun k hk => by have := (hS k hk).1; omega
 have pR := fS_pos (sh := shL x dn τ nL m) g.g hnL m (by omega)
 have pD : ∀ i, i ≤ nL → 0 < D.getD i 0 := fun i hi => g.g.d i (by omega)
 have hdd : 0 < dn * dn := Int.mul_pos hdp hdp
 -- the norm of the numbers as they came
 obtain ⟨q0, z0, d0⟩ := nat_of (Int.mul_pos hdd (Int.mul_pos pR (pD (nL - m) (by omega)))) (k := 8388608) (Nat.le_trans (dl_mul (dl_mul hdl hdl) (dl_mul (hR m (Nat.le_refl _)) (dl_getD dD _))) (by omega))
 have b0n : (digs (nR (fS D (shL x dn τ nL m) L nL m).1 (dn * dn * ((fS D (shL x dn τ nL m) L nL m).2 * D.getD (nL - m) 0)).toNat).natAbs).length ≤ 8388608 := nR_len (Nat.le_trans (hN m (Nat.le_refl _)) (by omega))
 have hn := fun w u t v h ht hv => fnm_w w u t v nD nL nT 1048576 1048576 m 1048576 D L ts x h ht hv hD hL hT (by omega) (by omega) (by omega) (by omega) lD lL lT lx g 16777216 τ dn (by omega) lτ hof (fun k hk => Nat.le_trans (hN k hk) (by omega)) (fun k hk => Nat.le_trans (hR k hk) (by omega)) _ (hsx m) _ q0 z0 (by omega)
 generalize hq0 : (dn * dn * ((fS D (shL x dn τ nL m) L nL m).2 * D.getD (nL - m) 0)).toNat = qn at q0 z0 d0 b0n hn
 rcases Nat.lt_or_ge m nL with hml | hml
 rotate_left
 ·subst hxx
  exact fgr_1 w u t v z nD nL nT 1048576 1048576 m 1048576 Ka D L ts es a h ht hv hz hm0 (by omega) (by omega) hen' hC _ _ hn
   (fun w u t v h ht hv => fct_1 w u t v nD nL nT 1048576 1048576 m 1048576 D L ts _ h ht hv hD hL hT (by omega) (by omega) (by omega) (by omega) lD lL lT lx g (by omega))
 obtain ⟨T0, eT⟩ : ∃ y, τ.getD (nL - 1 - m) 0 = y := ⟨_, rfl⟩
 obtain ⟨D0, eD0⟩ : ∃ y, D.getD (nL - 1 - m) 0 = y := ⟨_, rfl⟩
 obtain ⟨D1, eD1⟩ : ∃ y, D.getD (nL - 1 - m + 1) 0 = y := ⟨_, rfl⟩
 obtain ⟨cn, ecn⟩ : ∃ y, T0 * D1 - fB (shL x dn τ nL m) L nL m = y := ⟨_, rfl⟩
 obtain ⟨cd, ecd⟩ : ∃ y, dn * D1 = y := ⟨_, rfl⟩
 have p0 : 0 < D0 := eD0 ▸ pD _ (by omega)
 have p1 : 0 < D1 := eD1 ▸ pD _ (by omega)
 have bD0 : (digs D0.natAbs).length ≤ Kd := eD0 ▸ dl_getD dD _
 have bD1 : (digs D1.natAbs).length ≤ Kd := eD1 ▸ dl_getD dD _
 have bT0 : (digs T0.natAbs).length ≤ A + S := eT ▸ dl_getD dτ _
 have bB : (digs (fB (shL x dn τ nL m) L nL m).natAbs).length ≤ Kx + (A + S) + 1 + Kd + m := fB_dl (hsx m) dL
 have bcn : (digs cn.natAbs).length ≤ 1048576 := by rw [← ecn]; exact Nat.le_trans (dl_sub (k := Kx + (A + S) + 1 + Kd + m) (Nat.le_trans (dl_mul bT0 bD1) (by omega)) bB) (by omega)
 have pcd : 0 < cd := by rw [← ecd]; exact Int.mul_pos hdp p1
 have bcd : (digs cd.natAbs).length ≤ S + Kd := by rw [← ecd]; exact dl_mul hdl bD1
 obtain ⟨qc, zc, dc⟩ := nat_of pcd (k := 1048576) (by omega)
 have hc := fun w u t v h ht hv => fct_w w u t v nD nL nT 1048576 1048576 m 1048576 D L ts x h ht hv hD hL hT (by omega) (by omega) (by omega) (by omega) lD lL lT lx g 16777216 τ dn (by omega) lτ hof (fun k hk => Nat.le_trans (hN k hk) (by omega)) (fun k hk => Nat.le_trans (hR k hk) (by omega)) hml T0 D1 cn cd eT eD1 ecn ecd _ (hsx m) (by omega) _ qc zc (by omega) (by omega)
 generalize hqc : cd.toNat = qcn at qc zc dc hc
 have hcl : dR cn qcn ≠ 0 := dR_ne zc
 -- the nearest
 have hnear0 := near_offF (A := nR cn qcn) (B := ((dR cn qcn : Nat) : Int)) (by omega)
 have hnear1 := gr_low zc hcl (nR_mul cn qcn) hnear0
 have bz : (digs (nr (nR cn qcn) ((dR cn qcn : Nat) : Int)).natAbs).length ≤ 1048576 := near_dl zc hnear1 bcn
 have bWz : (digs (nr (nR cn qcn) ((dR cn qcn : Nat) : Int) * cd - cn).natAbs).length ≤ 1048576 := by
  rw [qc]
  refine Nat.le_trans (digs_length_mono (m := cd.natAbs) ?_) (Nat.le_trans bcd (by omega))
  rw [qc]
  omega
 have bWa : (digs (a * cd - cn).natAbs).length ≤ 1048577 := dl_sub (Nat.le_trans (dl_mul dz bcd) (by omega)) bcn
 have gy := gr_ok (a := a) g.g hnL lx hml eT eD0 eD1 ecn ecd (by omega) (by omega) hN hR (by omega)
 have gz := gr_ok (a := nr (nR cn qcn) ((dR cn qcn : Nat) : Int)) g.g hnL lx hml eT eD0 eD1 ecn ecd (by omega) (by omega) hN hR (by omega)
 have hle : (nr (nR cn qcn) ((dR cn qcn : Nat) : Int) * cd - cn) * (nr (nR cn qcn) ((dR cn qcn : Nat) : Int) * cd - cn) ≤ (a * cd - cn) * (a * cd - cn) := by rw [qc]; exact gr_off hnear1
 generalize hzz : nr (nR cn qcn) ((dR cn qcn : Nat) : Int) = zz at bz gz hle
 have em : nL - (m + 1) = nL - 1 - m := by omega
 have em1 : nL - m = nL - 1 - m + 1 := by omega
 have fn : ∀ X : Int, (digs X.natAbs).length ≤ 1048576 → GrOk D L x τ dn D0 D1 cn cd nL m X → ∃ qX : Nat, (dn * dn) * ((fS D (shL (x ++ [X]) dn τ nL (m + 1)) L nL (m + 1)).2 * D0) = (qX : Int) ∧ qX ≠ 0 ∧ (digs qX).length ≤ 8388608 ∧ ∀ (w : World) (u t v : Value), Hs w (SF [Vv nD D 1048576, Mv nL L 1048576]) u → Hs w (QV nT ts 1048576) t → Hs w (Vv (m + 1) (x ++ [X]) 1048576) v → Calls Try.prog 5 #[u, t, v] w (Gives (TWO (QQ (fS D (shL (x ++ [X]) dn τ nL (m + 1)) L nL (m + 1)).1 qX) (IS (.int .i64 0))) w) := fun X hX o => by
  have hp := Int.mul_pos hdd (Int.mul_pos o.p p0)
  obtain ⟨k1, k2, k3⟩ := nat_of hp (k := 8388608) (Nat.le_trans (dl_mul (dl_mul hdl hdl) (dl_mul o.bR bD0)) (by omega))
  refine ⟨_, k1, k2, k3, fun w u t v h ht hv => ?_⟩
  exact fnm_w w u t v nD nL nT 1048576 1048576 (m + 1) 1048576 D L ts (x ++ [X]) h ht hv hD hL hT (by omega) (by omega) (by omega) (by omega) lD lL lT (by simp [lx]) ⟨g.g, g.len, by omega, g.t, g.r⟩ 16777216 τ dn (by omega) lτ hof o.hN o.hR _ (shL_dl (dl_app (fun i z hz => Nat.le_trans (dx i z hz) (show Kx ≤ 1048576 by omega)) hX) dτ (by omega) (m + 1)) _ (by rw [em, eD0]; exact k1) k2 (by omega)
 obtain ⟨qy, y1, y2, y3, hy⟩ := fn a (by omega) gy
 obtain ⟨qz, u1, u2, u3, hq⟩ := fn zz bz gz
 -- the range
 obtain ⟨i1, i2, i3⟩ := gr_in (a := a) pcd rfl
 have hrd : (0 : Int) < ((dR (fS D (shL (x ++ [a]) dn τ nL (m + 1)) L nL (m + 1)).1 qy : Nat) : Int) := by have := dR_ne (X := (fS D (shL (x ++ [a]) dn τ nL (m + 1)) L nL (m + 1)).1) y2; omega
 have hlf := gr_lf gy.e (rn := nR (fS D (shL (x ++ [a]) dn τ nL (m + 1)) L nL (m + 1)).1 qy) (rd := ((dR (fS D (shL (x ++ [a]) dn τ nL (m + 1)) L nL (m + 1)).1 qy : Nat) : Int)) (dn := dn) (by rw [y1]; exact nR_mul _ _) (Int.ne_of_gt (Int.mul_pos hdd gy.p))
 have hrR := Int.mul_pos hrd pR
 have bhi : (digs (fl (cn + ((((a * cd - cn).natAbs : Nat)) : Int)) cd).natAbs).length ≤ 1048579 := fl_len (by omega) (dl_add (k := 1048577) (by omega) (by rw [Int.natAbs_natCast]; exact bWa))
 have blo : (digs (-fl (((((a * cd - cn).natAbs : Nat)) : Int) - cn) cd).natAbs).length ≤ 1048579 := by rw [Int.natAbs_neg]; exact fl_len (by omega) (dl_sub (k := 1048577) (by rw [Int.natAbs_natCast]; exact bWa) (by omega))
 have hr : ∀ (w : World) (u t v r : Value), Hs w (SF [Vv nD D 1048576, Mv nL L 1048576]) u → Hs w (QV nT ts 1048576) t → Hs w (Vv m x 1048576) v → Hs w (Rv (nR (fS D (shL (x ++ [a]) dn τ nL (m + 1)) L nL (m + 1)).1 qy) ((dR (fS D (shL (x ++ [a]) dn τ nL (m + 1)) L nL (m + 1)).1 qy : Nat) : Int) 8388608 8388608) r → Calls Try.prog 10 #[u, t, v, r] w (Gives (FOUR (ZN (-fl (((((a * cd - cn).natAbs : Nat)) : Int) - cn) cd)) (ZN (fl (cn + ((((a * cd - cn).natAbs : Nat)) : Int)) cd)) (IS (.bool true)) (IS (.int .i64 0))) w) := fun w u t v r h ht hv hr =>
  frg_w w u t v r nD nL nT 1048576 1048576 m 1048576 D L ts x h ht hv hD hL hT (by omega) (by omega) (by omega) (by omega) lD lL lT lx 8388608 _ _ hr (by omega) ⟨g.g, g.len, g.m, g.t, fun k hk => by
   obtain rfl : k = 0 := by simp at hk; omega
   exact hrd⟩ 16777216 τ dn (by omega) lτ hof (fun k hk => Nat.le_trans (hN k hk) (by omega)) (fun k hk => Nat.le_trans (hR k hk) (by omega)) hml T0 D1 cn cd eT eD1 ecn ecd _ (hsx m) (by omega) D0 _ ((a * cd - cn) * (a * cd - cn)) (((a * cd - cn).natAbs : Nat) : Int) _ _ eD0 rfl
   (Int.nonneg_of_mul_nonneg_left (by rw [hlf]; exact Int.mul_nonneg (sq_nn _) (Int.le_of_lt hrR)) p0) (Int.ne_of_gt hrR) (by rw [hlf]; exact fl_mul (Int.ne_of_gt hrR)) (sq_nn _) (rt_sq _) (by rw [Int.natAbs_natCast]; omega) (by omega) rfl rfl (Int.le_trans i1 i2)
 have s1 := low_nn (N := (fS D (shL (x ++ [a]) dn τ nL (m + 1)) L nL (m + 1)).1) (N' := (fS D (shL x dn τ nL m) L nL m).1) y2 z0 (by
  rw [← q0, ← y1, em1, eD1, gr_up gy.e]
  exact Int.mul_nonneg (Int.mul_nonneg (Int.mul_nonneg (Int.le_of_lt hdd) (Int.le_of_lt gy.p)) (Int.le_of_lt pR)) (sq_nn _))
 have s2 := low_nn (N := (fS D (shL (x ++ [a]) dn τ nL (m + 1)) L nL (m + 1)).1) (N' := (fS D (shL (x ++ [zz]) dn τ nL (m + 1)) L nL (m + 1)).1) y2 u2 (by
  rw [← y1, ← u1]
  exact gr_cmp gy.e gz.e pR p1 p0 gy.p gz.p hle)
 subst hxx hzz
 have go := fgr_l w u t v z nD nL nT 1048576 1048576 m 1048576 Ka D L ts es a h ht hv hz hm0 (by omega) (by omega) hen' hC _ _ _ _ _ _ _ _ _ _ hcl (dR_ne z0) (dR_ne y2) (dR_ne u2) b0n (dR_len d0) (nR_len gy.bN) (dR_len y3) (nR_len gz.bN) (dR_len u3) (nR_len (Nat.le_trans bcn (by omega))) (dR_len (Nat.le_trans dc (by omega))) (Nat.le_trans blo (by omega)) (Nat.le_trans bhi (by omega)) bz hn hc hy hq hr s1 s2 (sign_le0 (Int.sub_nonpos_of_le i1)) (sign_le0 (Int.sub_nonpos_of_le i2))
 have go2 := fgr_h w u t v z nD nL nT 1048576 1048576 m 1048576 Ka D L ts es a h ht hv hz hm0 (by omega) (by omega) hen' hC _ _ _ _ _ _ _ _ _ _ hcl (dR_ne z0) (dR_ne y2) (dR_ne u2) b0n (dR_len d0) (nR_len gy.bN) (dR_len y3) (nR_len gz.bN) (dR_len u3) (nR_len (Nat.le_trans bcn (by omega))) (dR_len (Nat.le_trans dc (by omega))) (Nat.le_trans blo (by omega)) (Nat.le_trans bhi (by omega)) bz hn hc hy hq hr s1 s2 (sign_le0 (Int.sub_nonpos_of_le i1)) (sign_le0 (Int.sub_nonpos_of_le i2))
 by_cases hE : (-fl (((((a * cd - cn).natAbs : Nat)) : Int) - cn) cd - a).sign = 0
 ·exact go hE
 ·refine go2 hE ?_
  rcases i3 with i | i
  ·exfalso
   apply hE
   rw [i, Int.sub_self]
   rfl
  ·rw [← i, Int.sub_self]
   rfl
end Go.Proofs.Ytoeopdmaogmjhaa

/-
 FilterGrows for all that comes in.
-/
namespace Go.Proofs.Ytoeopdmaogmjhaa
open Go Go.RowKit Nt
set_option linter.unusedSimpArgs false
set_option linter.unusedVariables false
set_option maxRecDepth 20000

theorem filtergrows_walk (w : World) (a : Option Addr) (n c : Nat) (es : List El) (b : Option Addr) (m d : Nat) (rs : List Rw) (a1 : Option Addr) (n1 c1 : Nat) (rq : List Ra) (a2 : Option Addr) (n2 c2 : Nat) (fs : List El) (s : Bool) (a3 : Option Addr) (n3 c3 : Nat) (xs : List Nat) (s0 : Ls w a n c es) (z0 : Ms w b m d rs) (s1 : Qs w a1 n1 c1 rq) (s2 : Ls w a2 n2 c2 fs) (s3 : Sl w a3 n3 c3 xs) (B0 B1 B2 B3 B4 : Nat) (t0 : (es.map (fun e => e.c + 1)).sum ≤ B0) (y0 : d ≤ B1) (yy0 : ∀ (i : Nat) (r : Rw), rs[i]? = some r → r.c ≤ B1 ∧ ∀ (j : Nat) (e : El), r.es[j]? = some e → e.c ≤ B1) (t1 : (rq.map (fun r => r.x.c + r.y.c + 1)).sum ≤ B2) (t2 : (fs.map (fun e => e.c + 1)).sum ≤ B3) (u3 : c3 ≤ B4) (hB : B0 + B1 + B2 + B3 + B4 + 3 ≤ 1048576) :
  Calls Try.prog 3 #[.agg #[.slice a n c, .slice b m d], .slice a1 n1 c1, .slice a2 n2 c2, .agg #[.bool s, .slice a3 n3 c3]] w fun e w' => e = .returned (.bool true) ∧ Below w.heap.size w w' := by
 have l0 := s0.len
 have l2 := s2.len
 have q0 := len_sum es
 have q2 := len_sum fs
 have q3 := z0.cap
 have q4 := z0.len
 have q5 := s3.cap
 have hl1 := s1.len
 have h1 := sum_q rq
 obtain ⟨m1, m2, m3, m4⟩ := co_tot s1 (by omega)
 have h2 := dsum_take s1 n1 (Nat.le_refl _)
 rw [List.take_of_length_le (by omega)] at h2
 have hh := gso_hs (k := 1048576) s0 z0 (fun i e he => by have := one_sum he; omega) (fun i r hr => ⟨by have := (yy0 i r hr).1; omega, fun j e he => by have := (yy0 i r hr).2 j e he; omega⟩)
 have ht := qs_hs s1 (k := 1048576) m2
 have hv : Hs w (Vx n2 fs) (.slice a2 n2 c2) := ls_hs s2
 have hz : Hs w (Zv (sg s (val xs)) n3) (.agg #[.bool s, .slice a3 n3 c3]) := fun w' ev => ⟨s, a3, n3, c3, xs, rfl, sl_ev s3 (fun b o e2 _ hb => hb) ev, rfl, Nat.le_refl _⟩
 have dD : Dl (es.map El.z) (B0 + B1) := vv_dl (vx_vv (fun i x hx => by
  obtain ⟨_, _, _, _, _, hs⟩ := s0.lie i x hx
  have := hs.cap
  have := one_sum hx
  omega) _ w (ls_hs s0).now)
 have dL : Mdl (zz (rs.map Rw.es)) (B0 + B1) := by
  obtain ⟨e1, _, e3⟩ := ms_n z0 (k := B0 + B1) (fun i r hr => ⟨by have := (yy0 i r hr).1; omega, fun j e he => by have := (yy0 i r hr).2 j e he; omega⟩)
  have hb : Hs w (Mv m (zz (rs.map Rw.es)) (B0 + B1)) (.slice b m d) := fun w' ev => mx_mv e1 _ w' (ms_hs z0 w' ev)
  intro i zs hz
  obtain ⟨r, hr⟩ := mv_row hb.now hz
  exact vv_dl hr
 have hw : wtD (es.map El.z) (m + 1) ≤ B0 + B1 := by
  have h1 := wtD_sum (D := es.map El.z) (l := es.map (fun e => e.c + 1)) (by simp) (fun i hi => el_dl s0 i (by simpa using hi)) (m + 1)
  have h2 := take_sum (es.map (fun e => e.c + 1)) (m + 1)
  omega
 refine (grow_all w _ _ _ _ n m n1 n2 n3 _ _ _ fs _ hh ht hv hz (by omega) (by omega) m1 (by omega) (by simp [l0]) (by simp [zz, z0.len]) (by simp [s1.len]) l2 ((rq.map (fun r => r.x.c)).sum) (1 + (rq.map (fun r => r.y.c)).sum) (B3 - n2) (B0 + B1) (by omega) (fun i e he => ?_) (fun i e he => ?_) dD dL (fun k hk => ?_) (by simpa [hl1] using h2) hw).mono ?_
 ·obtain ⟨_, _, _, _, _, hs⟩ := s2.lie i e he
  have := hs.cap
  have := one_sum he
  omega
 ·have := one_sum he
  omega
 ·have hk' : k < rq.length := by simpa using hk
  have hr : rq[k]? = some (rq[k]'hk') := List.getElem?_eq_getElem _
  generalize rq[k]'hk' = r at hr
  obtain ⟨b, o, _, _, h5, h6⟩ := s1.lie k r hr
  have h3 := mem_sum (fun r : Ra => r.x.c) hr
  have h7 : (digs (r.x.z).natAbs).length ≤ r.x.n := sg_dl h5
  have := h5.cap
  rw [qz_get hr]
  show (digs (r.x.z).natAbs).length ≤ _
  have h3' : r.x.c ≤ (rq.map (fun r => r.x.c)).sum := h3
  omega
 ·rintro e w' ⟨v, rfl, hb, hv⟩
  obtain rfl : v = _ := hv
  exact ⟨rfl, hb⟩
end Go.Proofs.Ytoeopdmaogmjhaa
