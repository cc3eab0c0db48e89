import Derived.Test.YtdiagoaakadniaaGreatHxA
import Derived.Test.YtdiagoaakadniaaGreatGsA
import Derived.Test.YtdiagoaakadniaaGreatGsB
import Derived.Test.YtdiagoaakadniaaGreatSetV
import Derived.Test.YtdiagoaakadniaaGreatMkA
import Derived.Test.YtdiagoaakadniaaGreatGsD
namespace Go.Proofs.YtdiagoaakadniaaGreat
open Go Go.RowKit Nt
set_option linter.unusedSimpArgs false
set_option linter.unusedVariables false
set_option maxRecDepth 20000
set_option maxHeartbeats 16000000
theorem zg_sf : ∀ v w, Is (.agg #[.slice none 0 0, .slice none 0 0]) v w → SF [Is (.slice none 0 0), Is (.slice none 0 0)] v w := fun v w h => ⟨_, h, rfl, by simp [Value.oneCell'], fun f q hq => by
 match f, hq with
 | 0, hq => simp at hq; subst hq; exact ⟨_, rfl, rfl⟩
 | 1, hq => simp at hq; subst hq; exact ⟨_, rfl, rfl⟩⟩
theorem owns_sl {w : World} {lo e size n : Nat} {v : Value} {xs : List Value} (h : w.ownsRow lo e size v n xs) : ∃ p c, v = .slice p n c := by
 rcases h.2 with ⟨e1, e2⟩ | ⟨g, cap, cur, e1, _⟩
 ·exact ⟨none, 0, by rw [e2]; exact e1⟩
 ·exact ⟨_, _, e1⟩
section
variable {ops : Array Oper} {l : List Kd} {bx : Bxs} {sl : List (Tmp × Pr)} {i : Nat} {o : Oper} {Q : Exit → Act → World → Prop} {a0 : Act} {n : Nat} {w0 : World}
theorem ym0 {T T' : TypeId} {t k f j d e size m g : Nat} {χ : List Value → World → Prop} {x : Operand} {ps : List Pr} {xh : Value} (ho : ops[i]? = some o) (hw : Wants ops l bx sl i o) (hop : o.op = .store T' x (.tmp d)) (hx : Opnd ops l bx sl i x (Part a0 t f)) (hb : bx[k]? = some (t, .box T (SF ps))) (hn : unturned ops l i (.inl t) = true)
  (hj : ((depsOf ops i).contains j && unturned ops l i (.inr j)) = true) (hkj : kdAt l j = .mov g (.row e size m χ)) (hd : dstOf ops j = some d) (hS : Store1 T') (hf : f < ps.length) (hk : kdAt l i = .put (.inl t) (.box T (SF (ps.set f (Is xh))))) : OwedX Tryz.prog ops Q l bx sl a0 n w0 j xh i := fun vs B a w hv c o' ho' => by
 obtain rfl : o = o' := Option.some.inj (ho.symm.trans ho')
 simp only [Bool.and_eq_true] at hj
 obtain ⟨b, u, hp0, hB, hu, hφ⟩ := c.box t _ (List.mem_of_getElem? hb) hn
 obtain ⟨b', hb0, hv0⟩ := (hx a0 n w0 vs B a w c).now
 rw [hp0] at hb0
 simp at hb0
 subst hb0
 obtain ⟨en, hat⟩ := c.news j d _ (by simpa using hj.1) (by rw [hkj]; rfl) hd
 obtain ⟨xs, hown, _⟩ := hat hj.2
 rw [hv] at en hown
 obtain ⟨p, cc, es⟩ := owns_sl hown
 obtain ⟨cs, rfl, h2, h3, h4⟩ := hφ.now
 obtain ⟨v, hcv, _⟩ := h4 f (ps[f]'hf) (by simp [hf])
 have hfl : Flat (a.eval (.tmp d)) := Or.inl ⟨p, m, cc, en.trans es⟩
 have h := hS a.eval w o x (.tmp d) b f v hv0 (yl2 hu hcv) (ynq hu) hfl
 have h' : (execOp a.eval o).run Tryz.prog w = .ok .skip (w.setCell ⟨b, f, none⟩ (a.eval (.tmp d))) := by
  rw [← h]
  unfold execOp
  rw [hop]
 simp only [wpOp, ho]
 rw [if_pos (hw a0 n w0 vs B a w c)]
 refine Or.inl ?_
 unfold Oper.wp
 rw [h', Oper.upon_skip]
 exact ⟨undef, rfl, by rw [hk]; exact sf_put (x := .inl t) (χ := Is xh) (fun b h => yde (x := .inl t) (List.mem_of_getElem? hb) rfl h) hp0 hB hu hφ (fun _ _ => en) hfl.one _⟩
end
abbrev yfe  : Rk := .box 26 zI
theorem r5dot_w (w : World) (u v : Value) (n K : Nat) (As Bs : List Int) (h : Hs w (Vv n As K) u) (hv : Hs w (Vv n Bs K) v) (hn : n ≤ 1048576) (hK : K ≤ 8388608) :
  Calls Tryz.prog 76 #[u, v] w (Gives (ZN (dotR As Bs)) w) := by
 have hA := yhy h.now
 have hB := yhy hv.now
 have hd := dl_zip (yjq h.now) (yjq hv.now)
 refine yam (sl := [(0, (Vv n As K)), (1, (Vv n Bs K))]) Tryz.func76 rfl Tryz.ntmps76 (by simp) (yab rfl (h) (yab rfl (hv) yaq)) ?_
 intro a0 S0
 refine wq [.new (yfe)] [.inl 0] [.inr 0, .inr 1] S0 ?_ ?_
 ·apply jj1
  ·exact yat rfl wA rfl rfl (fun ρ w => ybi ρ _ w)
 intro _ a1 _ (S1 : Sta w 31 [(4, (yfe))] [(0, Vv n As K), (1, Vv n Bs K)] _ _ _)
 refine wq [.new (yfe)] [.inr 0, .inl 0] [.inr 0, .inr 1] S1 ?_ ?_
 ·apply jj1
  ·exact yat rfl wA rfl rfl (fun ρ w => ybi ρ _ w)
 intro B2 a2 W2 (S2 : Sta w 31 [(4, (yfe)), (5, (yfe))] [(0, Vv n As K), (1, Vv n Bs K)] _ _ _)
 refine wp_seq ?_
 replace S2 : Sta w 31 [(4, (yfe)), (5, (.box 26 ((ZN (sumZ ((List.zipWith (· * ·) As Bs).take 0))) w.heap.size)))] [(0, Vv n As K), (1, Vv n Bs K)] B2 a2 W2 := S2.reboxS 1 rfl (fun v w h => zero_zn' _ v w h)
 refine wq [.val (iV 0)] [.inr 0, .inr 1] [.inl 0, .inr 0, .inr 1] S2 ?_ ?_
 ·apply jj1
  ·exact mC
 intro B3 a3 _ (S3 : Sta w 31 [(4, (yfe)), (5, (.box 26 ((ZN (sumZ ((List.zipWith (· * ·) As Bs).take 0))) w.heap.size)))] [(6, iV 0), (0, Vv n As K), (1, Vv n Bs K)] _ _ _)
 refine wp_block ?_
 refine yan (fun (k0 : Nat) a W => (k0 ≤ n) ∧ ∃ Bq, Sta w 31 [(4, (yfe)), (5, (.box 26 ((ZN (sumZ ((List.zipWith (· * ·) As Bs).take k0))) w.heap.size)))] [(6, iV k0), (0, Vv n As K), (1, Vv n Bs K)] Bq a W) (fun (k0 : Nat) => n - k0) ?_ 0 ⟨Nat.zero_le _, B3, S3.sub [0, 1] [0, 1, 2]⟩
 rintro k0 a4 _ ⟨hcond, _, S4⟩
 by_cases hlt : k0 < n
 ·obtain ⟨a, ha⟩ : ∃ a, As[k0]? = some a := ⟨As[k0]'(by omega), List.getElem?_eq_getElem _⟩
  obtain ⟨b, hb⟩ : ∃ b, Bs[k0]? = some b := ⟨Bs[k0]'(by omega), List.getElem?_eq_getElem _⟩
  have hst := yjp (zip_get' (· * ·) ha hb)
  have dS := sumZ_len hd k0
  have dP := hd k0 _ (zip_get' (· * ·) ha hb)
  refine wp_seq ?_
  refine wq [.val (iV k0), .val (Vv n As K), .val (iV (n : Nat)), kT, kT, .val (iV k0), .val (Vv n Bs K), .val (iV (n : Nat)), kT, kT] [.inr 0, .inr 1] [.inl 9, .inr 0, .inr 1, .inr 2] S4 ?_ ?_
  ·repeat' refine And.intro ?_ ?_
   ·trivial
   ·exact mS 0 6
   ·exact mS 1 0
   ·exact yal rfl wA rfl (oO 1 8) yaw Tryz.underlying39 rfl
   ·exact yar wA (oO 0 7) (oO 2 9)
   ·exact mO 3 10
   ·exact mW (wI 4 11) (oS 0 6)
   ·exact mW (wI 4 11) (oS 2 1)
   ·exact yal rfl (wI 4 11) rfl (oO 6 13) yaw Tryz.underlying39 rfl
   ·exact yar (wI 4 11) (oO 5 12) (oO 7 14)
   ·exact pT wA (oO 4 11) (oO 8 15)
  intro B5 a5 W5 (S5 : Sta w 31 [(4, (yfe)), (5, (.box 26 ((ZN (sumZ ((List.zipWith (· * ·) As Bs).take k0))) w.heap.size)))] [(16, bT), (6, iV k0), (0, Vv n As K), (1, Vv n Bs K)] _ _ _)
  refine wp_cond_true (S5.bool 0 16 rfl) (wp_skip (thenN (wp_seq (wp_block ?_))))
  refine wr [.val ((ZN (sumZ ((List.zipWith (· * ·) As Bs).take k0))) w.heap.size), .val (Vv n As K), .val (iV k0), .val (AtE 2 (Zv a K)), .val (Zv a K), .val (Vv n Bs K), .val (iV k0), .val (AtE 2 (Zv b K)), .val (Zv b K), .val ((ZN (a * b)) w.heap.size), .val ((ZN (sumZ ((List.zipWith (· * ·) As Bs).take (k0 + 1)))) w.heap.size), .put (.inl 5) (.box 26 ((ZN (sumZ ((List.zipWith (· * ·) As Bs).take (k0 + 1)))) w.heap.size))] [.inr 0, .inr 1] [.inr 1, .inr 2, .inr 3] S5 ?_ ?_
  ·repeat' refine And.intro ?_ ?_
   ·trivial
   ·exact lod 1 wA (yau yaj ya0)
   ·exact mS 2 0
   ·exact mS 1 6
   ·exact yae rfl wA rfl yby (oO 1 20) (oO 2 21) (yas _ ha) rfl
   ·exact yag rfl wA rfl ycp (by decide) (ya5 (by decide) ybc) (oO 3 22) rfl
   ·exact mS 3 1
   ·exact mS 1 6
   ·exact yae rfl wA rfl yby (oO 5 24) (oO 6 25) (yas _ hb) rfl
   ·exact yag rfl wA rfl ycp (by decide) (ya5 (by decide) ybc) (oO 7 26) rfl
   ·exact ch2 wA (qO 4 23 rfl) (qO 8 27 rfl) (ya1 _) (fun w u0 u1 h0 h1 => (yms (by omega)) w u0 u1 ((fun _ _ h => h) _ _ h0.now) ((fun _ _ h => h) _ _ h1.now))
   ·exact ch2 wA (qO 0 19 rfl) (qO 9 28 rfl) (ya1 _) (fun w u0 u1 h0 h1 => Gives.cast ((g_radd (by omega) (by omega)) w u0 u1 ((ycy dS) _ _ h0.now) ((ycy dP) _ _ h1.now)) (by rw [← hst]))
   ·exact ya7 rfl wA rfl (k := 1) rfl (by kernel_rfl) (oO 10 29) (yaf yaj ya0 ya0) rfl
  intro B6 a6 W6 (S6 : Sta w 31 [(4, (yfe)), (5, (.box 26 ((ZN (sumZ ((List.zipWith (· * ·) As Bs).take (k0 + 1)))) w.heap.size)))] [(6, iV k0), (0, Vv n As K), (1, Vv n Bs K)] _ _ _)
  refine inBlkN (thenN ?_)
  refine wr [.val (iV k0), .val (iV (k0 + 1 : Nat)), .val (iV (k0 + 1 : Nat))] [.inr 0, .inr 1] [.inl 2, .inr 1, .inr 2] S6 ?_ ?_
  ·apply jj3
   ·exact mS 0 6
   ·exact ya3 wA (oO 0 17) (yaa _)
   ·exact mO 1 18
  intro B7 a7 _ (S7 : Sta w 31 [(4, (yfe)), (5, (.box 26 ((ZN (sumZ ((List.zipWith (· * ·) As Bs).take (k0 + 1)))) w.heap.size)))] [(6, iV (k0 + 1 : Nat)), (0, Vv n As K), (1, Vv n Bs K)] _ _ _)
  refine thenN ?_
  exact ⟨k0 + 1, ⟨by omega, B7, S7.sub [0, 1] [0, 1, 2]⟩, by omega⟩
 ·have ek : n = k0 := by omega
  have etk : (List.zipWith (· * ·) As Bs).take k0 = List.zipWith (· * ·) As Bs := List.take_of_length_le (by simp; omega)
  rw [etk] at S4
  refine wp_seq ?_
  refine wq [.val (iV k0), .val (Vv n As K), .val (iV (n : Nat)), kF, kF, .off, .off, .off, .off, kF] [.inr 0, .inr 1] [.inl 9, .inr 0, .inr 1, .inr 2] S4 ?_ ?_
  ·repeat' refine And.intro ?_ ?_
   ·trivial
   ·exact mS 0 6
   ·exact mS 1 0
   ·exact yal rfl wA rfl (oO 1 8) yaw Tryz.underlying39 rfl
   ·exact yaz wA (oO 0 7) (oO 2 9)
   ·exact mO 3 10
   ·exact oF 4 11
   ·exact oF 4 11
   ·exact oF 4 11
   ·exact oF 4 11
   ·exact pF wA (oO 4 11) (yaa _)
  intro B5 a5 W5 (S5 : Sta w 31 [(4, (yfe)), (5, (.box 26 ((ZN (dotR As Bs)) w.heap.size)))] [(16, bF), (6, iV k0), (0, Vv n As K), (1, Vv n Bs K)] _ _ _)
  refine wp_cond_false (S5.bool 0 16 rfl) (wp_exit (thenX (thenX (inBlkE (thenN ?_)))))
  refine wq [.val ((ZN (dotR As Bs)) w.heap.size), .put (.inl 4) (.box 26 ((ZN (dotR As Bs)) w.heap.size))] [.inr 0, .inr 1] [.inr 1, .inr 2, .inr 3] S5 ?_ ?_
  ·apply jj2
   ·exact lod 1 wA (yau yaj ya0)
   ·exact ya7 rfl wA rfl (k := 0) rfl (by kernel_rfl) (oO 0 30) (yaf yaj ycn ya0) rfl
  intro B6 a6 W6 (S6 : Sta w 31 [(4, (.box 26 ((ZN (dotR As Bs)) w.heap.size))), (5, (.box 26 ((ZN (dotR As Bs)) w.heap.size)))] [(6, iV k0), (0, Vv n As K), (1, Vv n Bs K)] _ _ _)
  refine wp_ret ?_
  exact ybe S6 rfl (ybb S6 0 4 rfl yaj ya0)
section
variable {G : Nat → Nat → Int} {mm KK : Nat}
theorem yfh (hp : ∀ m, m ≤ mm → 0 < Dt.det m G) {k : Nat} (hk : k ≤ mm) : (dt G k : Int) = Dt.det k G := by
 have := hp k hk
 unfold dt
 omega
theorem ydk (hp : ∀ m, m ≤ mm → 0 < Dt.det m G) {k : Nat} (hk : k ≤ mm) : dt G k ≠ 0 := by
 have := hp k hk
 have := yfh hp hk
 omega
theorem yoc : dt G 0 = 1 := rfl
theorem ycz (hp : ∀ m, m ≤ mm → 0 < Dt.det m G) {n' : Nat} (hB : ∀ k i j, k < n' → (digs (Dt.bo G k i j).natAbs).length ≤ KK) (h1 : 1 ≤ KK) (hmn : mm ≤ n') {k : Nat} (hk : k ≤ mm) : (digs (dt G k)).length ≤ KK := by
 cases k with
 | zero =>
  show (digs 1).length ≤ KK
  exact Nat.le_trans (ya4 (by decide)) h1
 | succ k =>
  have h := hB k k k (by omega)
  rw [Dt.bo_self, ← yfh hp hk, Int.natAbs_natCast] at h
  exact h
theorem yk4 (hp : ∀ m, m ≤ mm → 0 < Dt.det m G) {k : Nat} (hk : k ≤ mm) : Dt.Lead G k := fun m hm => Int.ne_of_gt (hp m (by omega))
theorem yk0 (hs : ∀ i j, G i j = G j i) (hp : ∀ m, m ≤ mm → 0 < Dt.det m G) {k i j : Nat} (hk : k + 1 ≤ mm) : (dt G k : Int) * Dt.bo G (k + 1) i j = (dt G (k + 1) : Int) * Dt.bo G k i j - Dt.bo G k i k * Dt.bo G k j k := by
 have h := Dt.bo_step (yk4 hp hk) i j
 rw [Dt.bo_self, Dt.bo_sym hs (yk4 hp (show k ≤ mm by omega)) k j] at h
 rw [yfh hp (show k ≤ mm by omega), yfh hp hk]
 exact h
end
theorem qq_of0 (G : Nat → Nat → Int) (i j : Nat) : RN (G i j) 1 = QQ (Dt.bo G 0 i j) (dt G 0) := by
 rw [Dt.bo_zero, yoc]
 exact qq_1 _
theorem qq_sign {P : Int} {Q : Nat} (hQ : Q ≠ 0) : (nR P Q).sign = P.sign := by
 have h := ykc (P := P) hQ
 have hd := ye7 (X := P) hQ
 have h1 : (nR P Q * (Q : Int)).sign = (P * (dR P Q : Int)).sign := by rw [h]
 rw [Int.sign_mul, Int.sign_mul, Int.sign_eq_one_of_pos (show (0 : Int) < (Q : Int) by omega), Int.sign_eq_one_of_pos (show (0 : Int) < (dR P Q : Int) by omega), Int.mul_one, Int.mul_one] at h1
 exact h1
theorem yd5 {a b k l : Nat} (h1 : (digs a).length ≤ k) (h2 : (digs b).length ≤ l) : (digs (a * b)).length ≤ k + l := Nat.le_trans (yap h1 h2) (Nat.le_refl _)
theorem ybx {a b : Int} {k l : Nat} (h1 : (digs a.natAbs).length ≤ k) (h2 : (digs b.natAbs).length ≤ l) : (digs (a * b).natAbs).length ≤ k + l := by rw [Int.natAbs_mul]; exact yd5 h1 h2
structure FS where
 k : Nat
 pm : Option Addr
 cm : Nat
 ps : Option Addr
 cs : Nat
abbrev qs (l : List (Int × Nat)) : List (Nat → Pr) := l.map (fun p => QQ p.1 p.2)
abbrev qms (l : List (List (Int × Nat))) : List (Nat → Pr) := l.map (fun r => LF 4 r.length (qs r))
theorem qms_snoc {l : List (List (Int × Nat))} {r : List (Int × Nat)} {lo : Nat} : (qms (l ++ [r])).map (· lo) = (qms l).map (· lo) ++ [LF 4 r.length (qs r) lo] := by simp [qms]
theorem qs_snoc {l : List (Int × Nat)} {r : Int × Nat} {lo : Nat} : (qs (l ++ [r])).map (· lo) = (qs l).map (· lo) ++ [QQ r.1 r.2 lo] := by simp [qs]
def FN (n : Nat) (mm : List (List (Int × Nat))) (st : List (Int × Nat)) : Nat → Pr := fun lo => SF [LF 1 n (qms mm) lo, LF 4 n (qs st) lo]
theorem fresh_qs {n : Nat} {l : List (Int × Nat)} : Fresh (LF 4 n (qs l)) := ygj (by decide) (fun i ψ h => by obtain ⟨z, _, rfl⟩ := yba h; exact ybh _ _)
theorem fresh_qms {n : Nat} {l : List (List (Int × Nat))} : Fresh (LF 1 n (qms l)) := ygj (by decide) (fun i ψ h => by obtain ⟨z, _, rfl⟩ := yba h; exact fresh_qs)
theorem ygh {n : Nat} {mm : List (List (Int × Nat))} {st : List (Int × Nat)} : Fresh (FN n mm st) :=
 ⟨fun lo lo' v w hl h => yqs (fun v w h => fresh_qms.mono _ _ v w hl h) (fun v w h => fresh_qs.mono _ _ v w hl h) v w h, fun lo v w w' B hB h ev => by
  obtain ⟨cs, e, hs, ho, hp⟩ := h
  refine ⟨cs, e, hs, ho, fun f p hf => ?_⟩
  match f, hf with
  | 0, hf => simp at hf; subst hf; obtain ⟨u, hu, ha⟩ := hp 0 _ rfl; exact ⟨u, hu, fresh_qms.ev _ u w w' B hB ha ev⟩
  | 1, hf => simp at hf; subst hf; obtain ⟨u, hu, ha⟩ := hp 1 _ rfl; exact ⟨u, hu, fresh_qs.ev _ u w w' B hB ha ev⟩⟩
theorem res_fn {w0 W : World} {n : Nat} {bx : Bxs} {sl : List (Tmp × Pr)} {B : Nat → Prop} {a : Act} (S : Sta w0 n bx sl B a W) (k t k1 k2 : Nat) {G1 G2 m c1 c2 : Nat} {p1 p2 : Option Addr} {mm : List (List (Int × Nat))} {st : List (Int × Nat)} (h : bx[k]? = some (t, .box 55 (SF [Is (.slice p1 m c1), Is (.slice p2 m c2)])))
  (hb : bx[k1]? = some (G1, RW w0.heap.size (.slice p1 m c1) 23 1 m ((qms mm).map (· w0.heap.size)))) (hb2 : bx[k2]? = some (G2, RW w0.heap.size (.slice p2 m c2) 28 4 m ((qs st).map (· w0.heap.size)))) : ∃ v, (resOf (.cell t 55) a.tmps).run Tryz.prog W = .ok v W ∧ FN m mm st w0.heap.size v W := by
 obtain ⟨v, h1, h2⟩ := ybb S k t h ybn yb1
 obtain ⟨xs, o1, _, x1⟩ := ynn (S.box _ (List.mem_of_getElem? hb))
 obtain ⟨ys, o2, _, x2⟩ := ynn (S.box _ (List.mem_of_getElem? hb2))
 exact ⟨v, h1, sf_two h2 (ydi (by decide) _ W _ o1 (x1 W (Ev.refl _ _))) (ydi (by decide) _ W _ o2 (x2 W (Ev.refl _ _)))⟩
abbrev yb8 (w : World) (Bm : List (List Int)) (g : FS) : Rk := RW w.heap.size (.slice (g.ps) (g.k) (g.cs)) 28 4 (g.k) ((qs (stL (gr Bm) (g.k))).map (· w.heap.size))
abbrev ybu  : Rk := .box 55 (Is (.agg #[.slice none 0 0, .slice none 0 0]))
abbrev yb7 (g : FS) : Rk := .box 55 (SF [(Is (.slice g.pm g.k g.cm)), (Is (.slice g.ps g.k g.cs))])
abbrev ycd (w : World) (Bm : List (List Int)) (g : FS) : Rk := RW w.heap.size (.slice (g.pm) (g.k) (g.cm)) 23 1 (g.k) ((qms (mmL (gr Bm) (g.k))).map (· w.heap.size))
abbrev yex (w : World) (Bm : List (List Int)) (g : FS) : Rk := .box 28 ((QQ (Dt.bo (gr Bm) (g.k) (g.k) (g.k)) (dt (gr Bm) (g.k))) w.heap.size)
abbrev yhu (w : World) (Bm : List (List Int)) (g : FS) : Rk := .row 28 4 (g.k) (CE 4 ((qs (muL (gr Bm) g.k (g.k))).map (· w.heap.size)))
abbrev ygx (w : World) (Bm : List (List Int)) (g : FS) (j0 : Nat) : Rk := .row 28 4 j0 (CE 4 ((qs (muL (gr Bm) g.k j0)).map (· w.heap.size)))
abbrev yf6 (w : World) (Bm : List (List Int)) (g : FS) : Pr := (LF 4 (g.k) (qs (muL (gr Bm) g.k g.k))) w.heap.size
abbrev yp4  : Rk := .box 55 (SF [(Is (.slice none 0 0)), (Is (.slice none 0 0))])
abbrev q8u5g9 (w : World) (Bm : List (List Int)) : Rk := RW w.heap.size (.slice none 0 0) 23 1 0 ((qms (mmL (gr Bm) 0)).map (· w.heap.size))
abbrev yp5 (w : World) (Bm : List (List Int)) (g : FS) (k1 : Nat) : Pr := (QQ (Dt.bo (gr Bm) (k1 + 1) (g.k) (g.k)) (dt (gr Bm) (k1 + 1))) w.heap.size
abbrev q8u5gb (w : World) (Bm : List (List Int)) (g : FS) : Rk := .box 28 ((QQ (Dt.bo (gr Bm) 0 (g.k) (g.k)) (dt (gr Bm) 0)) w.heap.size)
abbrev q8u5gc (w : World) (Bm : List (List Int)) (g : FS) (j0 : Nat) : Rk := .row 28 4 (j0 + 1) (CE 4 ((qs (muL (gr Bm) g.k (j0 + 1))).map (· w.heap.size)))
theorem ypp (w : World) (u : Value) (n x K KK mm : Nat) (Bm : List (List Int)) (h : Hs w (Mv n Bm K) u) (hn : n ≤ 1048576) (hx : x ≤ 1048576) (hK : K ≤ 8388608) (h1K : 1 ≤ KK) (hKK : KK ≤ 1048576) (lB : Bm.length = n) (hR : Reg Bm x) (hp : ∀ m, m ≤ mm → 0 < Dt.det m (gr Bm)) (hB : ∀ k i j, k < n → (digs (Dt.bo (gr Bm) k i j).natAbs).length ≤ KK) (b : Bool) (hb : (b = true ∧ mm = n) ∨ (b = false ∧ mm < n ∧ Dt.det (mm + 1) (gr Bm) ≤ 0)) :
  Calls Tryz.prog 52 #[u] w (Gives (TWO (FN mm (mmL (gr Bm) mm) (stL (gr Bm) mm)) (IS (.bool b))) w) := by
 have hmn : mm ≤ n := by
  rcases hb with ⟨_, h9⟩ | ⟨_, h9, _⟩ <;> omega
 refine yam (sl := [(0, (Mv n Bm K))]) Tryz.func52 rfl Tryz.ntmps52 (by simp) (yab rfl (h) yaq) ?_
 intro a0 S0
 refine wq [.new (ybu), kF] [.inl 0] [.inr 0] S0 ?_ ?_
 ·apply jj2
  ·exact yat rfl wA rfl rfl (fun ρ w => yca ρ _ w)
  ·exact mC
 intro _ a1 _ (S1 : Sta w 115 [(2, (ybu))] [(0, Mv n Bm K)] _ _ _)
 refine wq [.new (ybu)] [.inr 0, .inl 0] [.inr 0] S1 ?_ ?_
 ·apply jj1
  ·exact yat rfl wA rfl rfl (fun ρ w => yca ρ _ w)
 intro B2 a2 W2 (S2 : Sta w 115 [(2, (ybu)), (4, (ybu))] [(0, Mv n Bm K)] _ _ _)
 refine wp_seq ?_
 replace S2 : Sta w 115 [(2, (ybu)), (4, (yp4))] [(0, Mv n Bm K)] B2 a2 W2 := S2.reboxS 1 rfl zg_sf
 replace S2 : Sta w 115 [(1000002, (q8u5g9 w Bm)), (2, (ybu)), (4, (yp4))] [(0, Mv n Bm K)] B2 a2 W2 := S2.tellNilW 1000002 23 1
 replace S2 : Sta w 115 [(1000003, (RW w.heap.size (.slice none 0 0) 28 4 0 ((qs (stL (gr Bm) 0)).map (· w.heap.size)))), (1000002, (q8u5g9 w Bm)), (2, (ybu)), (4, (yp4))] [(0, Mv n Bm K)] B2 a2 W2 := S2.tellNilW 1000003 28 4
 refine wq [.val (iV 0)] [.inr 0, .inr 1, .inr 2, .inr 3] [.inl 0, .inr 0] S2 ?_ ?_
 ·apply jj1
  ·exact mC
 intro B3 a3 _ (S3 : Sta w 115 [(1000003, (RW w.heap.size (.slice none 0 0) 28 4 0 ((qs (stL (gr Bm) 0)).map (· w.heap.size)))), (1000002, (q8u5g9 w Bm)), (2, (ybu)), (4, (yp4))] [(5, iV 0), (0, Mv n Bm K)] _ _ _)
 refine wp_block ?_
 refine yan (fun (g : FS) a W => (g.k ≤ mm) ∧ ∃ Bq, Sta w 115 [(1000003, (yb8 w Bm g)), (1000002, (ycd w Bm g)), (2, (ybu)), (4, (yb7 g))] [(5, iV (g.k : Nat)), (0, Mv n Bm K)] Bq a W) (fun (g : FS) => n - g.k) ?_ ⟨0, none, 0, none, 0⟩ ⟨Nat.zero_le _, B3, S3.sub [0, 1, 2, 3] [0, 1]⟩
 rintro g a4 _ ⟨hcond, _, S4⟩
 by_cases hlt : g.k < n
 ·have hrx : ∀ j, j < n → (Bm.getD j []).length = x := fun j hj => by rw [List.getD_eq_getElem?_getD, List.getElem?_eq_getElem (by omega)]; exact hR j _ (List.getElem?_eq_getElem (by omega))
  have hqs := qq_sign (P := Dt.bo (gr Bm) (g.k) (g.k) (g.k)) (ydk hp (k := g.k) (by omega))
  refine wp_seq ?_
  refine wq [.val (iV (g.k : Nat)), .val (Mv n Bm K), .val (iV (n : Nat)), kT] [.inr 0, .inr 1, .inr 2, .inr 3] [.inl 3, .inr 0, .inr 1] S4 ?_ ?_
  ·apply jj4
   ·exact mS 0 5
   ·exact mS 1 0
   ·exact yal rfl wA rfl (oO 1 13) yaw Tryz.underlying22 rfl
   ·exact yar wA (oO 0 12) (oO 2 14)
  intro B5 a5 W5 (S5 : Sta w 115 [(1000003, (yb8 w Bm g)), (1000002, (ycd w Bm g)), (2, (ybu)), (4, (yb7 g))] [(15, bT), (5, iV (g.k : Nat)), (0, Mv n Bm K)] _ _ _)
  refine wp_cond_true (S5.bool 0 15 rfl) (wp_skip (thenN (wp_seq (wp_block ?_))))
  refine wq [.new (.row 28 4 0 (CE 4 ((qs (muL (gr Bm) g.k 0)).map (· w.heap.size))))] [.inr 0, .inr 1, .inr 2, .inr 3, .inl 0] [.inr 1, .inr 2] S5 ?_ ?_
  ·apply jj1
   ·exact yj9 rfl wA rfl rfl yjx
  intro B6 a6 W6 (S6 : Sta w 115 [(1000003, (yb8 w Bm g)), (1000002, (ycd w Bm g)), (2, (ybu)), (4, (yb7 g)), (6, (.row 28 4 0 (CE 4 ((qs (muL (gr Bm) g.k 0)).map (· w.heap.size)))))] [(5, iV (g.k : Nat)), (0, Mv n Bm K)] _ _ _)
  refine wp_seq ?_
  refine wq [.val (iV 0)] [.inr 0, .inr 1, .inr 2, .inr 3, .inr 4] [.inl 0, .inr 0, .inr 1] S6 ?_ ?_
  ·apply jj1
   ·exact mC
  intro B7 a7 _ (S7 : Sta w 115 [(1000003, (yb8 w Bm g)), (1000002, (ycd w Bm g)), (2, (ybu)), (4, (yb7 g)), (6, (.row 28 4 0 (CE 4 ((qs (muL (gr Bm) g.k 0)).map (· w.heap.size)))))] [(7, iV 0), (5, iV (g.k : Nat)), (0, Mv n Bm K)] _ _ _)
  refine wp_block ?_
  refine yan (fun (j0 : Nat) a W => (j0 ≤ g.k) ∧ ∃ Bq, Sta w 115 [(1000003, (yb8 w Bm g)), (1000002, (ycd w Bm g)), (2, (ybu)), (4, (yb7 g)), (6, (ygx w Bm g j0))] [(7, iV (j0 : Nat)), (5, iV (g.k : Nat)), (0, Mv n Bm K)] Bq a W) (fun (j0 : Nat) => g.k - j0) ?_ 0 ⟨Nat.zero_le _, B7, S7.sub [0, 1, 2, 3, 4] [0, 1, 2]⟩
  rintro j0 a8 _ ⟨hcond, _, S8⟩
  by_cases hlj : j0 < g.k
  ·skip
   refine wp_seq ?_
   refine wq [.val (iV (j0 : Nat)), .val (iV (g.k : Nat)), kT] [.inr 0, .inr 1, .inr 2, .inr 3, .inr 4] [.inl 2, .inr 0, .inr 1, .inr 2] S8 ?_ ?_
   ·apply jj3
    ·exact mS 0 7
    ·exact mS 1 5
    ·exact yar wA (oO 0 18) (oO 1 19)
   intro B9 a9 W9 (S9 : Sta w 115 [(1000003, (yb8 w Bm g)), (1000002, (ycd w Bm g)), (2, (ybu)), (4, (yb7 g)), (6, (ygx w Bm g j0))] [(20, bT), (7, iV (j0 : Nat)), (5, iV (g.k : Nat)), (0, Mv n Bm K)] _ _ _)
   refine wp_cond_true (S9.bool 0 20 rfl) (wp_skip (thenN (wp_seq (wp_block ?_))))
   refine wq [.val (Mv n Bm K), .val (iV (g.k : Nat)), .val (AtE 1 (Vv x (Bm.getD g.k []) K)), .val (Vv x (Bm.getD g.k []) K), .val (Mv n Bm K), .val (iV (j0 : Nat)), .val (AtE 1 (Vv x (Bm.getD j0 []) K)), .val (Vv x (Bm.getD j0 []) K), .val ((ZN (gr Bm g.k j0)) w.heap.size), .val ((QQ (Dt.bo (gr Bm) 0 (g.k) j0) (dt (gr Bm) 0)) w.heap.size), .new (.box 28 zR), .put (.inr 10) (.box 28 ((QQ (Dt.bo (gr Bm) 0 (g.k) j0) (dt (gr Bm) 0)) w.heap.size))] [.inr 0, .inr 1, .inr 2, .inr 3, .inr 4, .inl 10] [.inr 1, .inr 2, .inr 3] S9 ?_ ?_
   ·repeat' refine And.intro ?_ ?_
    ·trivial
    ·exact mS 3 0
    ·exact mS 2 5
    ·exact yae rfl wA rfl ya8 (oO 0 23) (oO 1 24) (by have q := yda (A := Bm) (K := K) (k := g.k) (by omega); rw [hrx g.k (by omega)] at q; exact q) rfl
    ·exact yag rfl wA rfl ya9 (by decide) yb3 (oO 2 25) rfl
    ·exact mS 3 0
    ·exact mS 1 7
    ·exact yae rfl wA rfl ya8 (oO 4 27) (oO 5 28) (by have q := yda (A := Bm) (K := K) (k := j0) (by omega); rw [hrx j0 (by omega)] at q; exact q) rfl
    ·exact yag rfl wA rfl ya9 (by decide) yb3 (oO 6 29) rfl
    ·exact ch2 wA (qO 3 26 rfl) (qO 7 30 rfl) (ya1 _) (fun w u v h1 h2 => r5dot_w w u v x K (Bm.getD g.k []) (Bm.getD j0 []) h1 h2 (by omega) hK)
    ·exact cc1 wA (qO 8 31 rfl) (ybh _ _) (fun w u0 h0 => Gives.cast ((fun w u h => ymt (k := KK) (by omega) w u (ycy (by have q := hB 0 g.k j0 (by omega); rw [Dt.bo_zero] at q; exact q) _ _ h)) w u0 h0) (by exact qq_of0 (gr Bm) _ _))
    ·exact yat rfl wA rfl rfl (fun ρ w => ybd ρ _ w)
    ·exact ybj 10 rfl wA rfl (by kernel_rfl) rfl (oO 9 32) (yaf yah ybr ya6) rfl
   intro B10 a10 W10 (S10 : Sta w 115 [(1000003, (yb8 w Bm g)), (1000002, (ycd w Bm g)), (2, (ybu)), (4, (yb7 g)), (6, (ygx w Bm g j0)), (8, (.box 28 ((QQ (Dt.bo (gr Bm) 0 (g.k) j0) (dt (gr Bm) 0)) w.heap.size)))] [(7, iV (j0 : Nat)), (5, iV (g.k : Nat)), (0, Mv n Bm K)] _ _ _)
   refine wp_seq ?_
   refine wq [.val (iV 0)] [.inr 0, .inr 1, .inr 2, .inr 3, .inr 4, .inr 5] [.inl 0, .inr 0, .inr 1, .inr 2] S10 ?_ ?_
   ·apply jj1
    ·exact mC
   intro B11 a11 W11 (S11 : Sta w 115 [(1000003, (yb8 w Bm g)), (1000002, (ycd w Bm g)), (2, (ybu)), (4, (yb7 g)), (6, (ygx w Bm g j0)), (8, (.box 28 ((QQ (Dt.bo (gr Bm) 0 (g.k) j0) (dt (gr Bm) 0)) w.heap.size)))] [(9, iV 0), (7, iV (j0 : Nat)), (5, iV (g.k : Nat)), (0, Mv n Bm K)] _ _ _)
   refine wp_block ?_
   refine yan (fun (k0 : Nat) a W => (k0 ≤ j0) ∧ ∃ Bq, Sta w 115 [(1000003, (yb8 w Bm g)), (1000002, (ycd w Bm g)), (2, (ybu)), (4, (yb7 g)), (6, (ygx w Bm g j0)), (8, (.box 28 ((QQ (Dt.bo (gr Bm) k0 (g.k) j0) (dt (gr Bm) k0)) w.heap.size)))] [(9, iV (k0 : Nat)), (7, iV (j0 : Nat)), (5, iV (g.k : Nat)), (0, Mv n Bm K)] Bq a W) (fun (k0 : Nat) => j0 - k0) ?_ 0 ⟨Nat.zero_le _, B11, S11.sub [0, 1, 2, 3, 4, 5] [0, 1, 2, 3]⟩
   rintro k0 a12 W12 ⟨hcond, B12, S12⟩
   by_cases hlk : k0 < j0
   ·have hml := yha (gr Bm) j0 j0
    refine wp_seq ?_
    refine wq [.val (iV (k0 : Nat)), .val (iV (j0 : Nat)), kT] [.inr 0, .inr 1, .inr 2, .inr 3, .inr 4, .inr 5] [.inl 2, .inr 0, .inr 1, .inr 2, .inr 3] S12 ?_ ?_
    ·apply jj3
     ·exact mS 0 9
     ·exact mS 1 7
     ·exact yar wA (oO 0 33) (oO 1 34)
    intro B13 a13 W13 (S13 : Sta w 115 [(1000003, (yb8 w Bm g)), (1000002, (ycd w Bm g)), (2, (ybu)), (4, (yb7 g)), (6, (ygx w Bm g j0)), (8, (.box 28 ((QQ (Dt.bo (gr Bm) k0 (g.k) j0) (dt (gr Bm) k0)) w.heap.size)))] [(35, bT), (9, iV (k0 : Nat)), (7, iV (j0 : Nat)), (5, iV (g.k : Nat)), (0, Mv n Bm K)] _ _ _)
    refine wp_cond_true (S13.bool 0 35 rfl) (wp_skip (thenN (wp_seq (wp_block ?_))))
    refine wr [.val ((QQ (Dt.bo (gr Bm) k0 (g.k) j0) (dt (gr Bm) k0)) w.heap.size), .val (Part a13 4 0), .val (Is (.slice g.pm g.k g.cm)), .val (iV (j0 : Nat)), .val (PAt (g.pm) (1 * j0)), .val ((LF 4 ((muL (gr Bm) j0 j0).length) (qs (muL (gr Bm) j0 j0))) w.heap.size), .val (iV (k0 : Nat)), .val (AtE 4 ((QQ (Dt.bo (gr Bm) k0 j0 k0) (dt (gr Bm) (k0 + 1))) w.heap.size)), .val ((QQ (Dt.bo (gr Bm) k0 j0 k0) (dt (gr Bm) (k0 + 1))) w.heap.size), .val (Is (a13.eval (.tmp 6))), .val (iV (k0 : Nat)), .val (REt a13 6 (4 * k0)), .val ((QQ (Dt.bo (gr Bm) k0 (g.k) k0) (dt (gr Bm) (k0 + 1))) w.heap.size), .val ((QQ (Dt.bo (gr Bm) k0 j0 k0 * Dt.bo (gr Bm) k0 (g.k) k0) (dt (gr Bm) (k0 + 1) * dt (gr Bm) (k0 + 1))) w.heap.size), .val (Part a13 4 1), .val (Is (.slice g.ps g.k g.cs)), .val (iV (k0 : Nat)), .val (PAt (g.ps) (4 * k0)), .val ((QQ (((dt (gr Bm) (k0 + 1) : Nat) : Int)) (dt (gr Bm) k0)) w.heap.size), .val ((QQ (Dt.bo (gr Bm) k0 j0 k0 * Dt.bo (gr Bm) k0 (g.k) k0 * ((dt (gr Bm) (k0 + 1) : Nat) : Int)) (dt (gr Bm) (k0 + 1) * dt (gr Bm) (k0 + 1) * dt (gr Bm) k0)) w.heap.size), .val ((QQ (Dt.bo (gr Bm) (k0 + 1) (g.k) j0) (dt (gr Bm) (k0 + 1))) w.heap.size), .put (.inl 8) (.box 28 ((QQ (Dt.bo (gr Bm) (k0 + 1) (g.k) j0) (dt (gr Bm) (k0 + 1))) w.heap.size))] [.inr 0, .inr 1, .inr 2, .inr 3, .inr 4, .inr 5] [.inr 1, .inr 2, .inr 3, .inr 4] S13 ?_ ?_
    ·repeat' refine And.intro ?_ ?_
     ·trivial
     ·exact lod 5 wA (yau yah ya6)
     ·exact ya2 rfl wA rfl (k := 3) rfl (by kernel_rfl) rfl (fun ρ w b h => yec ρ _ _ w b 0 h)
     ·exact yav rfl wA rfl (oO 1 39) (k := 3) rfl (by kernel_rfl) rfl (fun ρ w b u h1 h2 h3 => ploadS rfl yfx ρ _ _ w b u h1 h2 h3)
     ·exact mS 2 7
     ·exact yf1 rfl wA rfl yiu (oO 2 40) (k := 1) rfl (by kernel_rfl) (oO 3 41) (by omega) rfl
     ·exact ygs rfl wA rfl yix (by decide) (oO 4 42) (k := 1) rfl (by kernel_rfl) (yas (· w.heap.size) (yas (fun r : List (Int × Nat) => LF 4 r.length (qs r)) (ylb (show j0 < g.k by omega)))) rfl
     ·exact mS 1 9
     ·exact yae rfl wA rfl ybs ((oO 5 43).imp yg8) (oO 6 44) (yas (· w.heap.size) (yas (fun p : Int × Nat => QQ p.1 p.2) (yg9 hlk))) rfl
     ·exact yag rfl wA rfl ybz (by decide) (ya5 (by decide) ya6) (oO 7 45) rfl
     ·exact yct rfl wA (Or.inl rfl) (by kernel_rfl) rfl
     ·exact mS 1 9
     ·exact ycs rfl wA rfl ybs (oO 9 47) (k := 4) rfl (by kernel_rfl) (oO 10 48) (by omega) rfl
     ·exact yf0 rfl wA rfl ybz (by decide) (oO 11 49) (k := 4) rfl (by kernel_rfl) (yas (· w.heap.size) (yas (fun p : Int × Nat => QQ p.1 p.2) (yg9 hlk))) rfl
     ·exact cc2 wA (qO 8 46 rfl) (qO 12 50 rfl) (ybh _ _) (yi8 (k := KK) (k' := KK) (ydk hp (k := k0 + 1) (by omega)) (ydk hp (k := k0 + 1) (by omega)) (hB k0 j0 k0 (by omega)) (ycz hp hB h1K hmn (k := k0 + 1) (by omega)) (hB k0 (g.k) k0 (by omega)) (ycz hp hB h1K hmn (k := k0 + 1) (by omega)) (by omega) (by omega))
     ·exact ya2 rfl wA rfl (k := 3) rfl (by kernel_rfl) rfl (fun ρ w b h => ydf ρ _ _ w b 0 h)
     ·exact yav rfl wA rfl (oO 14 52) (k := 3) rfl (by kernel_rfl) rfl (fun ρ w b u h1 h2 h3 => ploadS rfl yd2 ρ _ _ w b u h1 h2 h3)
     ·exact mS 1 9
     ·exact yf1 rfl wA rfl ybs (oO 15 53) (k := 0) rfl (by kernel_rfl) (oO 16 54) (by omega) rfl
     ·exact ygs rfl wA rfl ybz (by decide) (oO 17 55) (k := 0) rfl (by kernel_rfl) (yas (· w.heap.size) (yas (fun p : Int × Nat => QQ p.1 p.2) (yhh (show k0 < g.k by omega)))) rfl
     ·exact cc2 wA (qO 13 51 rfl) (qO 18 56 rfl) (ybh _ _) (yi8 (k := KK + KK) (k' := KK) (Nat.mul_ne_zero (ydk hp (k := k0 + 1) (by omega)) (ydk hp (k := k0 + 1) (by omega))) (ydk hp (k := k0) (by omega)) (ybx (hB k0 j0 k0 (by omega)) (hB k0 (g.k) k0 (by omega))) (yd5 (ycz hp hB h1K hmn (k := k0 + 1) (by omega)) (ycz hp hB h1K hmn (k := k0 + 1) (by omega))) (show (digs ((dt (gr Bm) (k0 + 1) : Nat) : Int).natAbs).length ≤ KK by rw [Int.natAbs_natCast]; exact (ycz hp hB h1K hmn (k := k0 + 1) (by omega))) (ycz hp hB h1K hmn (k := k0) (by omega)) (by omega) (by omega))
     ·exact cc2 wA (qO 0 38 rfl) (qO 19 57 rfl) (ybh _ _) (fun w u0 u1 h0 h1 => Gives.cast ((ym9 (k := KK) (k' := KK + KK + KK) (ydk hp (k := k0) (by omega)) (Nat.mul_ne_zero (Nat.mul_ne_zero (ydk hp (k := k0 + 1) (by omega)) (ydk hp (k := k0 + 1) (by omega))) (ydk hp (k := k0) (by omega))) (hB k0 (g.k) j0 (by omega)) (ycz hp hB h1K hmn (k := k0) (by omega)) (ybx (ybx (hB k0 j0 k0 (by omega)) (hB k0 (g.k) k0 (by omega))) (show (digs ((dt (gr Bm) (k0 + 1) : Nat) : Int).natAbs).length ≤ KK by rw [Int.natAbs_natCast]; exact (ycz hp hB h1K hmn (k := k0 + 1) (by omega)))) (yd5 (yd5 (ycz hp hB h1K hmn (k := k0 + 1) (by omega)) (ycz hp hB h1K hmn (k := k0 + 1) (by omega))) (ycz hp hB h1K hmn (k := k0) (by omega))) (by omega) (by omega)) w u0 u1 h0 h1) (by exact fr_sub (ydk hp (k := k0) (by omega)) (ydk hp (k := k0 + 1) (by omega)) (yk0 (yiq Bm) hp (by omega))))
     ·exact ya7 rfl wA rfl (k := 5) rfl (by kernel_rfl) (oO 20 58) (yaf yah ya6 ya6) rfl
    intro B14 a14 W14 (S14 : Sta w 115 [(1000003, (yb8 w Bm g)), (1000002, (ycd w Bm g)), (2, (ybu)), (4, (yb7 g)), (6, (ygx w Bm g j0)), (8, (.box 28 ((QQ (Dt.bo (gr Bm) (k0 + 1) (g.k) j0) (dt (gr Bm) (k0 + 1))) w.heap.size)))] [(9, iV (k0 : Nat)), (7, iV (j0 : Nat)), (5, iV (g.k : Nat)), (0, Mv n Bm K)] _ _ _)
    refine inBlkN (thenN ?_)
    refine wr [.val (iV (k0 : Nat)), .val (iV (k0 + 1 : Nat)), .val (iV (k0 + 1 : Nat))] [.inr 0, .inr 1, .inr 2, .inr 3, .inr 4, .inr 5] [.inl 2, .inr 1, .inr 2, .inr 3] S14 ?_ ?_
    ·apply jj3
     ·exact mS 0 9
     ·exact ya3 wA (oO 0 36) (yaa _)
     ·exact mO 1 37
    intro B15 a15 W15 (S15 : Sta w 115 [(1000003, (yb8 w Bm g)), (1000002, (ycd w Bm g)), (2, (ybu)), (4, (yb7 g)), (6, (ygx w Bm g j0)), (8, (.box 28 ((QQ (Dt.bo (gr Bm) (k0 + 1) (g.k) j0) (dt (gr Bm) (k0 + 1))) w.heap.size)))] [(9, iV (k0 + 1 : Nat)), (7, iV (j0 : Nat)), (5, iV (g.k : Nat)), (0, Mv n Bm K)] _ _ _)
    refine thenN ?_
    exact ⟨k0 + 1, ⟨by omega, B15, S15.sub [0, 1, 2, 3, 4, 5] [0, 1, 2, 3]⟩, by omega⟩
   ·have ek : k0 = j0 := by omega
    rw [ek] at S12
    refine wp_seq ?_
    refine wq [.val (iV (j0 : Nat)), .val (iV (j0 : Nat)), kF] [.inr 0, .inr 1, .inr 2, .inr 3, .inr 4, .inr 5] [.inl 2, .inr 0, .inr 1, .inr 2, .inr 3] S12 ?_ ?_
    ·apply jj3
     ·exact mS 0 9
     ·exact mS 1 7
     ·exact yaz wA (oO 0 33) (oO 1 34)
    intro B13 a13 W13 (S13 : Sta w 115 [(1000003, (yb8 w Bm g)), (1000002, (ycd w Bm g)), (2, (ybu)), (4, (yb7 g)), (6, (ygx w Bm g j0)), (8, (.box 28 ((QQ (Dt.bo (gr Bm) j0 (g.k) j0) (dt (gr Bm) j0)) w.heap.size)))] [(35, bF), (9, iV (j0 : Nat)), (7, iV (j0 : Nat)), (5, iV (g.k : Nat)), (0, Mv n Bm K)] _ _ _)
    refine wp_cond_false (S13.bool 0 35 rfl) (wp_exit (thenX (thenX (inBlkE (thenN ?_)))))
    refine wr [.val (Is (a13.eval (.tmp 6))), .val ((QQ (Dt.bo (gr Bm) j0 (g.k) j0) (dt (gr Bm) j0)) w.heap.size), .val (Part a13 4 1), .val (Is (.slice g.ps g.k g.cs)), .val (iV (j0 : Nat)), .val (PAt (g.ps) (4 * j0)), .val ((QQ (((dt (gr Bm) (j0 + 1) : Nat) : Int)) (dt (gr Bm) j0)) w.heap.size), .val ((QQ (Dt.bo (gr Bm) j0 (g.k) j0) (dt (gr Bm) (j0 + 1))) w.heap.size), .val (Sng 28 4 ((QQ (Dt.bo (gr Bm) j0 (g.k) j0) (dt (gr Bm) (j0 + 1))) w.heap.size) w.heap.size), .mov 6 (q8u5gc w Bm g j0), .ref 9] [.inr 0, .inr 1, .inr 2, .inr 3, .inr 5, .inl 10] [.inr 1, .inr 2, .inr 3, .inr 4] S13 ?_ ?_
    ·repeat' refine And.intro ?_ ?_
     ·trivial
     ·exact yct rfl wA (Or.inl rfl) (by kernel_rfl) rfl
     ·exact lod 5 wA (yau yah ya6)
     ·exact ya2 rfl wA rfl (k := 3) rfl (by kernel_rfl) rfl (fun ρ w b h => ydf ρ _ _ w b 0 h)
     ·exact yav rfl wA rfl (oO 2 61) (k := 3) rfl (by kernel_rfl) rfl (fun ρ w b u h1 h2 h3 => ploadS rfl yd2 ρ _ _ w b u h1 h2 h3)
     ·exact mS 2 7
     ·exact yf1 rfl wA rfl ybs (oO 3 62) (k := 0) rfl (by kernel_rfl) (oO 4 63) (by omega) rfl
     ·exact ygs rfl wA rfl ybz (by decide) (oO 5 64) (k := 0) rfl (by kernel_rfl) (yas (· w.heap.size) (yas (fun p : Int × Nat => QQ p.1 p.2) (yhh hlj))) rfl
     ·exact cc2 wA (qO 1 60 rfl) (qO 6 65 rfl) (ybh _ _) (fun w u0 u1 h0 h1 => Gives.cast ((q_rdiv (k := KK) (k' := KK) (ydk hp (k := j0) (by omega)) (ydk hp (k := j0) (by omega)) (ydk hp (k := j0 + 1) (by omega)) (hB j0 (g.k) j0 (by omega)) (ycz hp hB h1K hmn (k := j0) (by omega)) (ycz hp hB h1K hmn (k := j0 + 1) (by omega)) (ycz hp hB h1K hmn (k := j0) (by omega)) (by omega) (by omega)) w u0 u1 h0 h1) (by exact fr_div (ydk hp (k := j0) (by omega)) (ydk hp (k := j0 + 1) (by omega))))
     ·exact ygp rfl wA rfl yks (oO 7 66) (ya5 (by decide) ya6) rfl
     ·exact yfy rfl wA rfl (oO 0 59) (k := 4) rfl (by kernel_rfl) ((oO 8 67).imp yhk) yim Tryz.underlying23 (by decide) ⟨by unfold maxLen; omega, by omega⟩ rfl (fun xs ys w h1 h2 => by simp only [muL, List.map_append, List.map_cons, List.map_nil]; exact ydy _ _ _ h1 h2)
     ·exact yea 9 rfl wA (Or.inr rfl) (by kernel_rfl) rfl rfl
    intro B14 a14 W14 (S14 : Sta w 115 [(1000003, (yb8 w Bm g)), (1000002, (ycd w Bm g)), (2, (ybu)), (4, (yb7 g)), (8, (.box 28 ((QQ (Dt.bo (gr Bm) j0 (g.k) j0) (dt (gr Bm) j0)) w.heap.size))), (6, (q8u5gc w Bm g j0))] [(9, iV (j0 : Nat)), (7, iV (j0 : Nat)), (5, iV (g.k : Nat)), (0, Mv n Bm K)] _ _ _)
    refine inBlkN (thenN ?_)
    refine wr [.val (iV (j0 : Nat)), .val (iV (j0 + 1 : Nat)), .val (iV (j0 + 1 : Nat))] [.inr 0, .inr 1, .inr 2, .inr 3, .inr 4, .inr 5] [.inl 2, .inr 0, .inr 2, .inr 3] S14 ?_ ?_
    ·apply jj3
     ·exact mS 1 7
     ·exact ya3 wA (oO 0 21) (yaa _)
     ·exact mO 1 22
    intro B15 a15 W15 (S15 : Sta w 115 [(1000003, (yb8 w Bm g)), (1000002, (ycd w Bm g)), (2, (ybu)), (4, (yb7 g)), (8, (.box 28 ((QQ (Dt.bo (gr Bm) j0 (g.k) j0) (dt (gr Bm) j0)) w.heap.size))), (6, (q8u5gc w Bm g j0))] [(7, iV (j0 + 1 : Nat)), (9, iV (j0 : Nat)), (5, iV (g.k : Nat)), (0, Mv n Bm K)] _ _ _)
    refine thenN ?_
    exact ⟨j0 + 1, ⟨by omega, B15, S15.sub [0, 1, 2, 3, 5] [0, 2, 3]⟩, by omega⟩
  ·have ej : j0 = g.k := by omega
   rw [ej] at S8
   refine wp_seq ?_
   refine wq [.val (iV (g.k : Nat)), .val (iV (g.k : Nat)), kF] [.inr 0, .inr 1, .inr 2, .inr 3, .inr 4] [.inl 2, .inr 0, .inr 1, .inr 2] S8 ?_ ?_
   ·apply jj3
    ·exact mS 0 7
    ·exact mS 1 5
    ·exact yaz wA (oO 0 18) (oO 1 19)
   intro B9 a9 W9 (S9 : Sta w 115 [(1000003, (yb8 w Bm g)), (1000002, (ycd w Bm g)), (2, (ybu)), (4, (yb7 g)), (6, (yhu w Bm g))] [(20, bF), (7, iV (g.k : Nat)), (5, iV (g.k : Nat)), (0, Mv n Bm K)] _ _ _)
   refine wp_cond_false (S9.bool 0 20 rfl) (wp_exit (thenX (thenX (inBlkE (thenN ?_)))))
   refine wq [.val (Mv n Bm K), .val (iV (g.k : Nat)), .val (AtE 1 (Vv x (Bm.getD g.k []) K)), .val (Vv x (Bm.getD g.k []) K), .val (Mv n Bm K), .val (iV (g.k : Nat)), .val (AtE 1 (Vv x (Bm.getD g.k []) K)), .val (Vv x (Bm.getD g.k []) K), .val ((ZN (gr Bm g.k g.k)) w.heap.size), .val ((QQ (Dt.bo (gr Bm) 0 (g.k) (g.k)) (dt (gr Bm) 0)) w.heap.size), .new (.box 28 zR), .put (.inr 10) (q8u5gb w Bm g)] [.inr 0, .inr 1, .inr 2, .inr 3, .inr 4, .inl 10] [.inr 1, .inr 2, .inr 3] S9 ?_ ?_
   ·repeat' refine And.intro ?_ ?_
    ·trivial
    ·exact mS 3 0
    ·exact mS 2 5
    ·exact yae rfl wA rfl ya8 (oO 0 69) (oO 1 70) (by have q := yda (A := Bm) (K := K) (k := g.k) (by omega); rw [hrx g.k (by omega)] at q; exact q) rfl
    ·exact yag rfl wA rfl ya9 (by decide) yb3 (oO 2 71) rfl
    ·exact mS 3 0
    ·exact mS 2 5
    ·exact yae rfl wA rfl ya8 (oO 4 73) (oO 5 74) (by have q := yda (A := Bm) (K := K) (k := g.k) (by omega); rw [hrx g.k (by omega)] at q; exact q) rfl
    ·exact yag rfl wA rfl ya9 (by decide) yb3 (oO 6 75) rfl
    ·exact ch2 wA (qO 3 72 rfl) (qO 7 76 rfl) (ya1 _) (fun w u v h1 h2 => r5dot_w w u v x K (Bm.getD g.k []) (Bm.getD g.k []) h1 h2 (by omega) hK)
    ·exact cc1 wA (qO 8 77 rfl) (ybh _ _) (fun w u0 h0 => Gives.cast ((fun w u h => ymt (k := KK) (by omega) w u (ycy (by have q := hB 0 g.k g.k (by omega); rw [Dt.bo_zero] at q; exact q) _ _ h)) w u0 h0) (by exact qq_of0 (gr Bm) _ _))
    ·exact yat rfl wA rfl rfl (fun ρ w => ybd ρ _ w)
    ·exact ybj 10 rfl wA rfl (by kernel_rfl) rfl (oO 9 78) (yaf yah ybr ya6) rfl
   intro B10 a10 W10 (S10 : Sta w 115 [(1000003, (yb8 w Bm g)), (1000002, (ycd w Bm g)), (2, (ybu)), (4, (yb7 g)), (6, (yhu w Bm g)), (10, (q8u5gb w Bm g))] [(7, iV (g.k : Nat)), (5, iV (g.k : Nat)), (0, Mv n Bm K)] _ _ _)
   refine wp_seq ?_
   refine wq [.val (iV 0)] [.inr 0, .inr 1, .inr 2, .inr 3, .inr 4, .inr 5] [.inl 0, .inr 0, .inr 1, .inr 2] S10 ?_ ?_
   ·apply jj1
    ·exact mC
   intro B11 a11 W11 (S11 : Sta w 115 [(1000003, (yb8 w Bm g)), (1000002, (ycd w Bm g)), (2, (ybu)), (4, (yb7 g)), (6, (yhu w Bm g)), (10, (q8u5gb w Bm g))] [(11, iV 0), (7, iV (g.k : Nat)), (5, iV (g.k : Nat)), (0, Mv n Bm K)] _ _ _)
   refine wp_block ?_
   refine yan (fun (k1 : Nat) a W => (k1 ≤ g.k) ∧ ∃ Bq, Sta w 115 [(1000003, (yb8 w Bm g)), (1000002, (ycd w Bm g)), (2, (ybu)), (4, (yb7 g)), (6, (yhu w Bm g)), (10, (.box 28 ((QQ (Dt.bo (gr Bm) k1 (g.k) (g.k)) (dt (gr Bm) k1)) w.heap.size)))] [(11, iV (k1 : Nat)), (5, iV (g.k : Nat)), (0, Mv n Bm K)] Bq a W) (fun (k1 : Nat) => g.k - k1) ?_ 0 ⟨Nat.zero_le _, B11, S11.sub [0, 1, 2, 3, 4, 5] [0, 2, 3]⟩
   rintro k1 a12 W12 ⟨hcond, B12, S12⟩
   by_cases hls : k1 < g.k
   ·skip
    refine wp_seq ?_
    refine wq [.val (iV (k1 : Nat)), .val (iV (g.k : Nat)), kT] [.inr 0, .inr 1, .inr 2, .inr 3, .inr 4, .inr 5] [.inl 2, .inr 0, .inr 1, .inr 2] S12 ?_ ?_
    ·apply jj3
     ·exact mS 0 11
     ·exact mS 1 5
     ·exact yar wA (oO 0 79) (oO 1 80)
    intro B13 a13 W13 (S13 : Sta w 115 [(1000003, (yb8 w Bm g)), (1000002, (ycd w Bm g)), (2, (ybu)), (4, (yb7 g)), (6, (yhu w Bm g)), (10, (.box 28 ((QQ (Dt.bo (gr Bm) k1 (g.k) (g.k)) (dt (gr Bm) k1)) w.heap.size)))] [(81, bT), (11, iV (k1 : Nat)), (5, iV (g.k : Nat)), (0, Mv n Bm K)] _ _ _)
    refine wp_cond_true (S13.bool 0 81 rfl) (wp_skip (thenN (wp_seq (wp_block ?_))))
    refine wr [.val ((QQ (Dt.bo (gr Bm) k1 (g.k) (g.k)) (dt (gr Bm) k1)) w.heap.size), .val (Is (a13.eval (.tmp 6))), .val (iV (k1 : Nat)), .val (REt a13 6 (4 * k1)), .val ((QQ (Dt.bo (gr Bm) k1 (g.k) k1) (dt (gr Bm) (k1 + 1))) w.heap.size), .val ((QQ (Dt.bo (gr Bm) k1 (g.k) k1 * Dt.bo (gr Bm) k1 (g.k) k1) (dt (gr Bm) (k1 + 1) * dt (gr Bm) (k1 + 1))) w.heap.size), .val (Part a13 4 1), .val (Is (.slice g.ps g.k g.cs)), .val (iV (k1 : Nat)), .val (PAt (g.ps) (4 * k1)), .val ((QQ (((dt (gr Bm) (k1 + 1) : Nat) : Int)) (dt (gr Bm) k1)) w.heap.size), .val ((QQ (Dt.bo (gr Bm) k1 (g.k) k1 * Dt.bo (gr Bm) k1 (g.k) k1 * ((dt (gr Bm) (k1 + 1) : Nat) : Int)) (dt (gr Bm) (k1 + 1) * dt (gr Bm) (k1 + 1) * dt (gr Bm) k1)) w.heap.size), .val (yp5 w Bm g k1), .put (.inl 10) (.box 28 (yp5 w Bm g k1))] [.inr 0, .inr 1, .inr 2, .inr 3, .inr 4, .inr 5] [.inr 1, .inr 2, .inr 3] S13 ?_ ?_
    ·repeat' refine And.intro ?_ ?_
     ·trivial
     ·exact lod 5 wA (yau yah ya6)
     ·exact yct rfl wA (Or.inl rfl) (by kernel_rfl) rfl
     ·exact mS 1 11
     ·exact ycs rfl wA rfl ybs (oO 1 85) (k := 4) rfl (by kernel_rfl) (oO 2 86) (by omega) rfl
     ·exact yf0 rfl wA rfl ybz (by decide) (oO 3 87) (k := 4) rfl (by kernel_rfl) (yas (· w.heap.size) (yas (fun p : Int × Nat => QQ p.1 p.2) (yg9 hls))) rfl
     ·exact ch1 wA (qO 4 88 rfl) (ybh _ _) (fun w u h => ynl w u _ _ _ h (ydk hp (k := k1 + 1) (by omega)) (Nat.le_trans (hB k1 (g.k) k1 (by omega)) (by omega)) (Nat.le_trans (ycz hp hB h1K hmn (k := k1 + 1) (by omega)) (by omega)))
     ·exact ya2 rfl wA rfl (k := 3) rfl (by kernel_rfl) rfl (fun ρ w b h => ydf ρ _ _ w b 0 h)
     ·exact yav rfl wA rfl (oO 6 90) (k := 3) rfl (by kernel_rfl) rfl (fun ρ w b u h1 h2 h3 => ploadS rfl yd2 ρ _ _ w b u h1 h2 h3)
     ·exact mS 1 11
     ·exact yf1 rfl wA rfl ybs (oO 7 91) (k := 0) rfl (by kernel_rfl) (oO 8 92) (by omega) rfl
     ·exact ygs rfl wA rfl ybz (by decide) (oO 9 93) (k := 0) rfl (by kernel_rfl) (yas (· w.heap.size) (yas (fun p : Int × Nat => QQ p.1 p.2) (yhh hls))) rfl
     ·exact cc2 wA (qO 5 89 rfl) (qO 10 94 rfl) (ybh _ _) (yi8 (k := KK + KK) (k' := KK) (Nat.mul_ne_zero (ydk hp (k := k1 + 1) (by omega)) (ydk hp (k := k1 + 1) (by omega))) (ydk hp (k := k1) (by omega)) (ybx (hB k1 (g.k) k1 (by omega)) (hB k1 (g.k) k1 (by omega))) (yd5 (ycz hp hB h1K hmn (k := k1 + 1) (by omega)) (ycz hp hB h1K hmn (k := k1 + 1) (by omega))) (show (digs ((dt (gr Bm) (k1 + 1) : Nat) : Int).natAbs).length ≤ KK by rw [Int.natAbs_natCast]; exact (ycz hp hB h1K hmn (k := k1 + 1) (by omega))) (ycz hp hB h1K hmn (k := k1) (by omega)) (by omega) (by omega))
     ·exact cc2 wA (qO 0 84 rfl) (qO 11 95 rfl) (ybh _ _) (fun w u0 u1 h0 h1 => Gives.cast ((ym9 (k := KK) (k' := KK + KK + KK) (ydk hp (k := k1) (by omega)) (Nat.mul_ne_zero (Nat.mul_ne_zero (ydk hp (k := k1 + 1) (by omega)) (ydk hp (k := k1 + 1) (by omega))) (ydk hp (k := k1) (by omega))) (hB k1 (g.k) (g.k) (by omega)) (ycz hp hB h1K hmn (k := k1) (by omega)) (ybx (ybx (hB k1 (g.k) k1 (by omega)) (hB k1 (g.k) k1 (by omega))) (show (digs ((dt (gr Bm) (k1 + 1) : Nat) : Int).natAbs).length ≤ KK by rw [Int.natAbs_natCast]; exact (ycz hp hB h1K hmn (k := k1 + 1) (by omega)))) (yd5 (yd5 (ycz hp hB h1K hmn (k := k1 + 1) (by omega)) (ycz hp hB h1K hmn (k := k1 + 1) (by omega))) (ycz hp hB h1K hmn (k := k1) (by omega))) (by omega) (by omega)) w u0 u1 h0 h1) (by exact fr_sub (ydk hp (k := k1) (by omega)) (ydk hp (k := k1 + 1) (by omega)) (yk0 (yiq Bm) hp (by omega))))
     ·exact ya7 rfl wA rfl (k := 5) rfl (by kernel_rfl) (oO 12 96) (yaf yah ya6 ya6) rfl
    intro B14 a14 W14 (S14 : Sta w 115 [(1000003, (yb8 w Bm g)), (1000002, (ycd w Bm g)), (2, (ybu)), (4, (yb7 g)), (6, (yhu w Bm g)), (10, (.box 28 (yp5 w Bm g k1)))] [(11, iV (k1 : Nat)), (5, iV (g.k : Nat)), (0, Mv n Bm K)] _ _ _)
    refine inBlkN (thenN ?_)
    refine wr [.val (iV (k1 : Nat)), .val (iV (k1 + 1 : Nat)), .val (iV (k1 + 1 : Nat))] [.inr 0, .inr 1, .inr 2, .inr 3, .inr 4, .inr 5] [.inl 2, .inr 1, .inr 2] S14 ?_ ?_
    ·apply jj3
     ·exact mS 0 11
     ·exact ya3 wA (oO 0 82) (yaa _)
     ·exact mO 1 83
    intro B15 a15 W15 (S15 : Sta w 115 [(1000003, (yb8 w Bm g)), (1000002, (ycd w Bm g)), (2, (ybu)), (4, (yb7 g)), (6, (yhu w Bm g)), (10, (.box 28 (yp5 w Bm g k1)))] [(11, iV (k1 + 1 : Nat)), (5, iV (g.k : Nat)), (0, Mv n Bm K)] _ _ _)
    refine thenN ?_
    exact ⟨k1 + 1, ⟨by omega, B15, S15.sub [0, 1, 2, 3, 4, 5] [0, 1, 2]⟩, by omega⟩
   ·have es : k1 = g.k := by omega
    rw [es] at S12
    refine wp_seq ?_
    refine wq [.val (iV (g.k : Nat)), .val (iV (g.k : Nat)), kF] [.inr 0, .inr 1, .inr 2, .inr 3, .inr 4, .inr 5] [.inl 2, .inr 0, .inr 1, .inr 2] S12 ?_ ?_
    ·apply jj3
     ·exact mS 0 11
     ·exact mS 1 5
     ·exact yaz wA (oO 0 79) (oO 1 80)
    intro B13 a13 W13 (S13 : Sta w 115 [(1000003, (yb8 w Bm g)), (1000002, (ycd w Bm g)), (2, (ybu)), (4, (yb7 g)), (6, (yhu w Bm g)), (10, (yex w Bm g))] [(81, bF), (11, iV (g.k : Nat)), (5, iV (g.k : Nat)), (0, Mv n Bm K)] _ _ _)
    refine wp_cond_false (S13.bool 0 81 rfl) (wp_exit (thenX (thenX (inBlkE (thenN ?_)))))
    rcases Nat.lt_or_ge g.k mm with hlm | hlm
    ·skip
     refine wp_seq ?_
     obtain ⟨B14, S14⟩ : ∃ Bq, Sta w 115 [(1000003, (yb8 w Bm g)), (1000002, (ycd w Bm g)), (2, (ybu)), (4, (yb7 g)), (10, (yex w Bm g))] [(6, (yf6 w Bm g)), (81, bF), (11, iV (g.k : Nat)), (5, iV (g.k : Nat)), (0, Mv n Bm K)] Bq a13 W13 := ⟨_, S13.freeze 4 rfl (by simp) (fun v w' xs ho hc => ydi (by decide) v w' xs ho hc)⟩
     obtain ⟨a14, W14, e1, e2⟩ : ∃ a W, a13 = a ∧ W13 = W := ⟨_, _, rfl, rfl⟩
     rw [e1, e2] at S14 ⊢
     clear e1 e2
     refine wq [.val (Part a14 10 0), .val ((ZN (nR (Dt.bo (gr Bm) (g.k) (g.k) (g.k)) (dt (gr Bm) (g.k)))) w.heap.size), .val (Is (.int .i64 (nR (Dt.bo (gr Bm) (g.k) (g.k) (g.k)) (dt (gr Bm) (g.k))).sign)), kF] [.inr 0, .inr 1, .inr 2, .inr 3, .inr 4] [.inl 3, .inr 0, .inr 2, .inr 3, .inr 4] S14 ?_ ?_
     ·apply jj4
      ·exact ya2 rfl wA rfl (k := 4) rfl (by kernel_rfl) rfl (fun ρ w b h => ydl ρ _ _ w b 0 h)
      ·exact yav rfl wA rfl (oO 0 97) (k := 4) rfl (by kernel_rfl) rfl (fun ρ w b u h1 h2 h3 => ydm ρ _ _ w b u h1 h2 h3)
      ·exact cc1 wA (qO 1 98 rfl) (yak _) (fun w u h => yog (ka := KK) (by omega) w u (ycy (nR_len (hB (g.k) (g.k) (g.k) (by omega))) _ _ h))
      ·exact yga wA (oO 2 99) (yaa _) (h := by rw [hqs, Dt.bo_self, yjm (hp (g.k + 1) (by omega))]; omega)
     intro B15 a15 W15 (S15 : Sta w 115 [(1000003, (yb8 w Bm g)), (1000002, (ycd w Bm g)), (2, (ybu)), (4, (yb7 g)), (10, (yex w Bm g))] [(100, bF), (6, (yf6 w Bm g)), (11, iV (g.k : Nat)), (5, iV (g.k : Nat)), (0, Mv n Bm K)] _ _ _)
     refine wp_cond_false (S15.bool 0 100 rfl) (wp_skip (thenN (wp_seq ?_)))
     refine wp_stmtX 4 (fun xh => [.val (Part a15 4 0),
   .val (Is (.slice g.pm g.k g.cm)),
   .val ((LF 4 (g.k) (qs (muL (gr Bm) g.k g.k))) w.heap.size),
   .val (Sng 23 1 ((LF 4 (g.k) (qs (muL (gr Bm) g.k g.k))) w.heap.size) w.heap.size),
   .mov 1000002 (.row 23 1 (g.k + 1) (CE 1 ((qms (mmL (gr Bm) (g.k + 1))).map (· w.heap.size)))),
   .val (Part a15 4 0),
   .put (.inl 4) (.box 55 (SF [(Is (xh)), (Is (.slice g.ps g.k g.cs))]))]) [.inr 0, .inr 2, .inr 3, .inr 4, .inl 4] [.inr 1, .inr 2, .inr 3, .inr 4] follows S15 (fun _ => rfl) (fun _ => by kernel_rfl) (by decide) (fun _ _ => ?_) (fun xh => ?_) ?_
     ·exact ⟨⟨⟨⟨⟨⟨⟨trivial, fun _ => rfl⟩, fun _ => rfl⟩, fun _ => rfl⟩, fun _ => rfl⟩, fun _ => rfl⟩, fun _ => rfl⟩, fun h => absurd (List.contains_iff_mem.1 (by kernel_rfl)) h⟩
     ·repeat' refine And.intro ?_ ?_
      ·trivial
      ·exact (ya2 rfl wA rfl (k := 3) rfl (by kernel_rfl) rfl (fun ρ w b h => yec ρ _ _ w b 0 h)).x
      ·exact (yav rfl wA rfl (oO 0 102) (k := 3) rfl (by kernel_rfl) rfl (fun ρ w b u h1 h2 h3 => ploadS rfl yfx ρ _ _ w b u h1 h2 h3)).x
      ·exact (ydw rfl wA (Or.inl rfl) (oS 1 6) rfl).x
      ·exact (ygp rfl wA rfl bld_qrow1 (oO 2 104) yme rfl).x
      ·exact (yi2 rfl wA rfl (oO 1 103) (k := 1) rfl (by kernel_rfl) ((oO 3 105).imp yhk) einf_qrow1 Tryz.underlying53 (by decide) ⟨by unfold maxLen; omega, by omega⟩ rfl (fun xs ys w h1 h2 => by rw [mmL, qms_snoc]; exact ydy _ _ _ h1 (by rw [yha]; exact h2))).x
      ·exact (ya2 rfl wA rfl (k := 3) rfl (by kernel_rfl) rfl (fun ρ w b h => yec ρ _ _ w b 0 h)).x
      ·exact ym0 rfl wA rfl (oO 5 107) (k := 3) rfl (by kernel_rfl) (by kernel_rfl) rfl (by kernel_rfl) yox (Nat.le_of_ble_eq_true rfl) rfl
     intro xh B16 a16 W16 hxh S16
     replace S16 : Sta w 115 [(1000003, (yb8 w Bm g)), (2, (ybu)), (4, (.box 55 (SF [(Is (xh)), (Is (.slice g.ps g.k g.cs))]))), (10, (yex w Bm g)), (106, (.row 23 1 (g.k + 1) (CE 1 ((qms (mmL (gr Bm) (g.k + 1))).map (· w.heap.size)))))] [(6, (yf6 w Bm g)), (11, iV (g.k : Nat)), (5, iV (g.k : Nat)), (0, Mv n Bm K)] B16 a16 W16 := S16
     obtain ⟨pm', cm', eh, S17⟩ := S16.tellW (bx' := [(1000003, (yb8 w Bm g)), (2, (ybu)), (4, (.box 55 (SF [(Is (xh)), (Is (.slice g.ps g.k g.cs))]))), (10, (yex w Bm g))]) 4 1000002 rfl (by simp) (by simp)
     obtain rfl : xh = _ := (hxh _ rfl).symm.trans eh
     replace S17 : Sta w 115 [(1000002, (RW w.heap.size (.slice pm' (g.k + 1) cm') 23 1 (g.k + 1) ((qms (mmL (gr Bm) (g.k + 1))).map (· w.heap.size)))), (1000003, (yb8 w Bm g)), (2, (ybu)), (4, (.box 55 (SF [(Is (.slice pm' (g.k + 1) cm')), (Is (.slice g.ps g.k g.cs))]))), (10, (yex w Bm g))] [(106, Is (.slice pm' (g.k + 1) cm')), (6, (yf6 w Bm g)), (11, iV (g.k : Nat)), (5, iV (g.k : Nat)), (0, Mv n Bm K)] B16 a16 W16 := S17
     clear hxh eh
     obtain ⟨_, a17, _, e0, e1, e2⟩ : ∃ B a W, B16 = B ∧ a16 = a ∧ W16 = W := ⟨_, _, _, rfl, rfl, rfl⟩
     rw [e0, e1, e2] at S17
     rw [e1, e2]
     clear e0 e1 e2
     refine thenN ?_
     refine wp_stmtX 4 (fun xh => [.val (Part a17 4 1),
   .val (Is (.slice g.ps g.k g.cs)),
   .val ((QQ (Dt.bo (gr Bm) (g.k) (g.k) (g.k)) (dt (gr Bm) (g.k))) w.heap.size),
   .val (Sng 28 4 ((QQ (Dt.bo (gr Bm) (g.k) (g.k) (g.k)) (dt (gr Bm) (g.k))) w.heap.size) w.heap.size),
   .mov 1000003 (.row 28 4 (g.k + 1) (CE 4 ((qs (stL (gr Bm) (g.k + 1))).map (· w.heap.size)))),
   .val (Part a17 4 1),
   .put (.inl 4) (.box 55 (SF [(Is (.slice pm' (g.k + 1) cm')), (Is (xh))]))]) [.inr 0, .inr 2, .inr 3, .inr 4, .inl 4] [.inr 1, .inr 2, .inr 3, .inr 4] follows S17 (fun _ => rfl) (fun _ => by kernel_rfl) (by decide) (fun _ _ => ?_) (fun xh => ?_) ?_
     ·exact ⟨⟨⟨⟨⟨⟨⟨trivial, fun _ => rfl⟩, fun _ => rfl⟩, fun _ => rfl⟩, fun _ => rfl⟩, fun _ => rfl⟩, fun _ => rfl⟩, fun h => absurd (List.contains_iff_mem.1 (by kernel_rfl)) h⟩
     ·repeat' refine And.intro ?_ ?_
      ·trivial
      ·exact (ya2 rfl wA rfl (k := 3) rfl (by kernel_rfl) rfl (fun ρ w b h => ydf ρ _ _ w b 0 h)).x
      ·exact (yav rfl wA rfl (oO 0 108) (k := 3) rfl (by kernel_rfl) rfl (fun ρ w b u h1 h2 h3 => ploadS rfl yd2 ρ _ _ w b u h1 h2 h3)).x
      ·exact (ypv rfl wA rfl (k := 4) rfl (by kernel_rfl) (yau yah ya6) rfl).x
      ·exact (ygp rfl wA rfl yks (oO 2 110) (ya5 (by decide) ya6) rfl).x
      ·exact (yi2 rfl wA rfl (oO 1 109) (k := 1) rfl (by kernel_rfl) ((oO 3 111).imp yhk) yim Tryz.underlying23 (by decide) ⟨by unfold maxLen; omega, by omega⟩ rfl (fun xs ys w h1 h2 => by rw [stL, qs_snoc]; exact ydy _ _ _ h1 (by rw [yfh hp (show g.k + 1 ≤ mm by omega), ← Dt.bo_self]; exact h2))).x
      ·exact (ya2 rfl wA rfl (k := 3) rfl (by kernel_rfl) rfl (fun ρ w b h => ydf ρ _ _ w b 0 h)).x
      ·exact ym0 rfl wA rfl (oO 5 113) (k := 3) rfl (by kernel_rfl) (by kernel_rfl) rfl (by kernel_rfl) yoy (Nat.le_of_ble_eq_true rfl) rfl
     intro xh B18 a18 W18 hxh S18
     replace S18 : Sta w 115 [(1000002, (RW w.heap.size (.slice pm' (g.k + 1) cm') 23 1 (g.k + 1) ((qms (mmL (gr Bm) (g.k + 1))).map (· w.heap.size)))), (2, (ybu)), (4, (.box 55 (SF [(Is (.slice pm' (g.k + 1) cm')), (Is (xh))]))), (10, (yex w Bm g)), (112, (.row 28 4 (g.k + 1) (CE 4 ((qs (stL (gr Bm) (g.k + 1))).map (· w.heap.size)))))] [(6, (yf6 w Bm g)), (11, iV (g.k : Nat)), (5, iV (g.k : Nat)), (0, Mv n Bm K)] B18 a18 W18 := S18
     obtain ⟨ps', cs', eh, S19⟩ := S18.tellW (bx' := [(1000002, (RW w.heap.size (.slice pm' (g.k + 1) cm') 23 1 (g.k + 1) ((qms (mmL (gr Bm) (g.k + 1))).map (· w.heap.size)))), (2, (ybu)), (4, (.box 55 (SF [(Is (.slice pm' (g.k + 1) cm')), (Is (xh))]))), (10, (yex w Bm g))]) 4 1000003 rfl (by simp) (by simp)
     obtain rfl : xh = _ := (hxh _ rfl).symm.trans eh
     replace S19 : Sta w 115 [(1000003, (RW w.heap.size (.slice ps' (g.k + 1) cs') 28 4 (g.k + 1) ((qs (stL (gr Bm) (g.k + 1))).map (· w.heap.size)))), (1000002, (RW w.heap.size (.slice pm' (g.k + 1) cm') 23 1 (g.k + 1) ((qms (mmL (gr Bm) (g.k + 1))).map (· w.heap.size)))), (2, (ybu)), (4, (.box 55 (SF [(Is (.slice pm' (g.k + 1) cm')), (Is (.slice ps' (g.k + 1) cs'))]))), (10, (yex w Bm g))] [(112, Is (.slice ps' (g.k + 1) cs')), (6, (yf6 w Bm g)), (11, iV (g.k : Nat)), (5, iV (g.k : Nat)), (0, Mv n Bm K)] B18 a18 W18 := S19
     clear hxh eh
     obtain ⟨_, a19, _, e0, e1, e2⟩ : ∃ B a W, B18 = B ∧ a18 = a ∧ W18 = W := ⟨_, _, _, rfl, rfl, rfl⟩
     rw [e0, e1, e2] at S19
     rw [e1, e2]
     clear e0 e1 e2
     refine inBlkN (thenN ?_)
     refine wr [.val (iV (g.k : Nat)), .val (iV (g.k + 1 : Nat)), .val (iV (g.k + 1 : Nat))] [.inr 0, .inr 1, .inr 2, .inr 3, .inr 4] [.inl 2, .inr 1, .inr 2, .inr 4] S19 ?_ ?_
     ·apply jj3
      ·exact mS 3 5
      ·exact ya3 wA (oO 0 16) (yaa _)
      ·exact mO 1 17
     intro B20 a20 _ (S20 : Sta w 115 [(1000003, (RW w.heap.size (.slice ps' (g.k + 1) cs') 28 4 (g.k + 1) ((qs (stL (gr Bm) (g.k + 1))).map (· w.heap.size)))), (1000002, (RW w.heap.size (.slice pm' (g.k + 1) cm') 23 1 (g.k + 1) ((qms (mmL (gr Bm) (g.k + 1))).map (· w.heap.size)))), (2, (ybu)), (4, (.box 55 (SF [(Is (.slice pm' (g.k + 1) cm')), (Is (.slice ps' (g.k + 1) cs'))]))), (10, (yex w Bm g))] [(5, iV (g.k + 1 : Nat)), (6, (yf6 w Bm g)), (11, iV (g.k : Nat)), (0, Mv n Bm K)] _ _ _)
     refine thenN ?_
     exact ⟨⟨g.k + 1, pm', cm', ps', cs'⟩, ⟨(by show g.k + 1 ≤ mm; omega), B20, S20.sub [0, 1, 2, 3] [0, 3]⟩, (by show n - (g.k + 1) < n - g.k; omega)⟩
    ·skip
     have ek : g.k = mm := by omega
     obtain ⟨rfl, hz⟩ : b = false ∧ Dt.det (mm + 1) (gr Bm) ≤ 0 := by
      rcases hb with ⟨_, h9⟩ | ⟨h9, _, h8⟩
      ·exfalso; omega
      ·exact ⟨h9, h8⟩
     refine wp_seq ?_
     obtain ⟨B14, S14⟩ : ∃ Bq, Sta w 115 [(1000003, (yb8 w Bm g)), (1000002, (ycd w Bm g)), (2, (ybu)), (4, (yb7 g)), (10, (yex w Bm g))] [(6, (yf6 w Bm g)), (81, bF), (11, iV (g.k : Nat)), (5, iV (g.k : Nat)), (0, Mv n Bm K)] Bq a13 W13 := ⟨_, S13.freeze 4 rfl (by simp) (fun v w' xs ho hc => ydi (by decide) v w' xs ho hc)⟩
     obtain ⟨a14, W14, e1, e2⟩ : ∃ a W, a13 = a ∧ W13 = W := ⟨_, _, rfl, rfl⟩
     rw [e1, e2] at S14 ⊢
     clear e1 e2
     refine wq [.val (Part a14 10 0), .val ((ZN (nR (Dt.bo (gr Bm) (g.k) (g.k) (g.k)) (dt (gr Bm) (g.k)))) w.heap.size), .val (Is (.int .i64 (nR (Dt.bo (gr Bm) (g.k) (g.k) (g.k)) (dt (gr Bm) (g.k))).sign)), kT] [.inr 0, .inr 1, .inr 2, .inr 3, .inr 4] [.inl 3, .inr 0, .inr 2, .inr 3, .inr 4] S14 ?_ ?_
     ·apply jj4
      ·exact ya2 rfl wA rfl (k := 4) rfl (by kernel_rfl) rfl (fun ρ w b h => ydl ρ _ _ w b 0 h)
      ·exact yav rfl wA rfl (oO 0 97) (k := 4) rfl (by kernel_rfl) rfl (fun ρ w b u h1 h2 h3 => ydm ρ _ _ w b u h1 h2 h3)
      ·exact cc1 wA (qO 1 98 rfl) (yak _) (fun w u h => yog (ka := KK) (by omega) w u (ycy (nR_len (hB (g.k) (g.k) (g.k) (by omega))) _ _ h))
      ·exact yid wA (oO 2 99) (yaa _) (h := by rw [hqs, Dt.bo_self, ek]; exact yl4 hz)
     intro B15 a15 W15 (S15 : Sta w 115 [(1000003, (yb8 w Bm g)), (1000002, (ycd w Bm g)), (2, (ybu)), (4, (yb7 g)), (10, (yex w Bm g))] [(100, bT), (6, (yf6 w Bm g)), (11, iV (g.k : Nat)), (5, iV (g.k : Nat)), (0, Mv n Bm K)] _ _ _)
     refine wp_cond_true (S15.bool 0 100 rfl) ?_
     refine wq [.val (SF [(Is (.slice g.pm g.k g.cm)), (Is (.slice g.ps g.k g.cs))]), .put (.inl 2) (yb7 g), kF] [.inr 0, .inr 1, .inr 2, .inr 3, .inr 4] [.inl 2, .inr 1, .inr 2, .inr 3, .inr 4] S15 ?_ ?_
     ·apply jj3
      ·exact lod 3 wA (yau ybn yb1)
      ·exact ya7 rfl wA rfl (k := 2) rfl (by kernel_rfl) (oO 0 101) (yaf ybn yb2 yb1) rfl
      ·exact mC
     intro B16 a16 W16 (S16 : Sta w 115 [(1000003, (yb8 w Bm g)), (1000002, (ycd w Bm g)), (2, (yb7 g)), (4, (yb7 g)), (10, (yex w Bm g))] [(3, bF), (6, (yf6 w Bm g)), (11, iV (g.k : Nat)), (5, iV (g.k : Nat)), (0, Mv n Bm K)] _ _ _)
     refine wp_ret (thenR (inBlkR (thenR (thenR (inBlkR (thenR ?_))))))
     exact yc8 S16 rfl (by have q := res_fn S16 2 2 1 0 rfl rfl rfl; rw [ek] at q; exact q) (yay S16 0 3 rfl)
 ·have ek : g.k = mm := by omega
  obtain rfl : b = true := by
   rcases hb with ⟨h9, _⟩ | ⟨_, h9, _⟩
   ·exact h9
   ·exfalso; omega
  refine wp_seq ?_
  refine wq [.val (iV (g.k : Nat)), .val (Mv n Bm K), .val (iV (n : Nat)), kF] [.inr 0, .inr 1, .inr 2, .inr 3] [.inl 3, .inr 0, .inr 1] S4 ?_ ?_
  ·apply jj4
   ·exact mS 0 5
   ·exact mS 1 0
   ·exact yal rfl wA rfl (oO 1 13) yaw Tryz.underlying22 rfl
   ·exact yaz wA (oO 0 12) (oO 2 14)
  intro B5 a5 W5 (S5 : Sta w 115 [(1000003, (yb8 w Bm g)), (1000002, (ycd w Bm g)), (2, (ybu)), (4, (yb7 g))] [(15, bF), (5, iV (g.k : Nat)), (0, Mv n Bm K)] _ _ _)
  refine wp_cond_false (S5.bool 0 15 rfl) (wp_exit (thenX (thenX (inBlkE (thenN ?_)))))
  refine wq [.val (SF [(Is (.slice g.pm g.k g.cm)), (Is (.slice g.ps g.k g.cs))]), .put (.inl 2) (yb7 g), kT] [.inr 0, .inr 1, .inr 2, .inr 3] [.inl 2, .inr 1, .inr 2] S5 ?_ ?_
  ·apply jj3
   ·exact lod 3 wA (yau ybn yb1)
   ·exact ya7 rfl wA rfl (k := 2) rfl (by kernel_rfl) (oO 0 114) (yaf ybn yb2 yb1) rfl
   ·exact mC
  intro B6 a6 W6 (S6 : Sta w 115 [(1000003, (yb8 w Bm g)), (1000002, (ycd w Bm g)), (2, (yb7 g)), (4, (yb7 g))] [(3, bT), (5, iV (g.k : Nat)), (0, Mv n Bm K)] _ _ _)
  refine wp_ret ?_
  exact yc8 S6 rfl (by have q := res_fn S6 2 2 1 0 rfl rfl rfl; rw [ek] at q; exact q) (yay S6 0 3 rfl)
theorem make_ok (w : World) (u : Value) (n x K KK mm : Nat) (Bm : List (List Int)) (h : Hs w (Mv n Bm K) u) (hn : n ≤ 1048576) (hx : x ≤ 1048576) (hK : K ≤ 8388608) (h1K : 1 ≤ KK) (hKK : KK ≤ 1048576) (lB : Bm.length = n) (hR : Reg Bm x) (hp : ∀ m, m ≤ mm → 0 < Dt.det m (gr Bm)) (hB : ∀ k i j, k < n → (digs (Dt.bo (gr Bm) k i j).natAbs).length ≤ KK) (em : mm = n) :
  Calls Tryz.prog 52 #[u] w (Gives (TWO (FN n (mmL (gr Bm) n) (stL (gr Bm) n)) (IS (.bool true))) w) := by
 subst em
 exact ypp w u mm x K KK mm Bm h hn hx hK h1K hKK lB hR hp hB true (Or.inl ⟨rfl, rfl⟩)
theorem make_dep (w : World) (u : Value) (n x K KK mm : Nat) (Bm : List (List Int)) (h : Hs w (Mv n Bm K) u) (hn : n ≤ 1048576) (hx : x ≤ 1048576) (hK : K ≤ 8388608) (h1K : 1 ≤ KK) (hKK : KK ≤ 1048576) (lB : Bm.length = n) (hR : Reg Bm x) (hp : ∀ m, m ≤ mm → 0 < Dt.det m (gr Bm)) (hB : ∀ k i j, k < n → (digs (Dt.bo (gr Bm) k i j).natAbs).length ≤ KK) (hm : mm < n) (hz : Dt.det (mm + 1) (gr Bm) ≤ 0) :
  Calls Tryz.prog 52 #[u] w (Gives (TWO (FN mm (mmL (gr Bm) mm) (stL (gr Bm) mm)) (IS (.bool false))) w) := ypp w u n x K KK mm Bm h hn hx hK h1K hKK lB hR hp hB false (Or.inr ⟨rfl, hm, hz⟩)
end Go.Proofs.YtdiagoaakadniaaGreat
