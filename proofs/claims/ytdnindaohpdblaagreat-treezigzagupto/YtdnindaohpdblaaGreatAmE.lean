import Derived.Test.YtdnindaohpdblaaGreatAmB
import Derived.Test.YtdnindaohpdblaaGreatJaC
set_option linter.all false
namespace Go.Proofs.YtdnindaohpdblaaGreat
open Go Go.RowKit Nt
set_option maxRecDepth 20000
set_option maxHeartbeats 16000000
theorem zrtG (w : World) (s : Bool) (p : Option Addr) (n c : Nat) (xs : List Nat) (h : Sl w p n c xs) (A : Int) (eA : sg s (val xs) = A) (hn : n ≤ 1073741824) (hA : 0 ≤ A.sign) :
  Calls Tryz.prog 142 #[.agg #[.bool s, .slice p n c]] w (Gives (TWO (ZN (sg false (rt (val xs)))) (IS (.int .i64 0))) w) := by
 have drt := zbl h
 have dA : (digs A.natAbs).length ≤ n := by rw [← eA]; exact yf1 h
 refine yan (sl := [(0, (Zx s p n c xs))]) Tryz.func142 rfl Tryz.ntmps142 (by simp) (yai rfl (yd6 h) yar) ?_
 intro a0 S0
 refine wq [.new (.box 24 (Zx s p n c xs)), .new (.box 24 zI), V (iV 0)] [.inl 0, .inl 1] [] S0 ?_ ?_
 ·exact jj3 (bxA wA (oS 0 0) (ycs yb8)) (nwA wA yak) mC
 intro _ a1 _ (S1 : Zt [_,_] [])
 refine wp_seq ?_
 refine wq [V (Zx s p n c xs), V (iV ((A).sign)), kF] ur2 [.inl 2] S1 ?_ ?_
 ·exact jj3 (loA 0 wA yaa yb8) (cc1 wA (qO 0 4 rfl) (yaf _) (fun w u h1 => zag (by omega) w u ((yec eA (zdu _)) _ _ h1))) (ya3 wA (oO 1 5) (yab _) (h := hA))
 intro _ a2 _ (S2 : Zt [_,_] [_])
 refine wp_cond_false (S2.bool 0 6 rfl) (wp_skip (thenN ?_))
 refine wq [V (Part a2 1 1), V (Nx p n c xs), Fw (NN (rt (val xs))) w, Fw (ZN (sg false (rt (val xs)))) w, .put (.inl 2) (.box 24 ((ZN (sg false (rt (val xs)))) w.heap.size)), V (iV 0)] [.inr 1] [.inl 5] S2 ?_ ?_
 ·exact jj6 (ptA wA 0 ybt) (plA wA (oO 0 8) 0 rfl rfl (ybu yet)) (cc1 wA (qO 1 9 rfl) (yc4 _) (fun w u h1 => zad (by omega) w u ((yg3 (zdu _)) _ _ h1))) (yjo rfl wA rfl (yab _) (oO 2 10) rfl (fun args w => by go_simp) yoh) (seA 1 wA (oO 3 11) yaa yao yad) mC
 intro _ a3 _ (S3 : Zt [_] [_])
 refine wp_ret ?_
 exact ycv S3 rfl (yaw S3 0 2 rfl yaa yad) (ya8 S3 0 3 rfl)
theorem yuh {A : Int} {k : Nat} {ρ : Int} (hk : k ≤ 1073741824) (hA : 0 ≤ A) (eρ : ((rt A.natAbs : Nat) : Int) = ρ) : ∀ w u, Zv A k u w → CG 142 #[u] w (TWO (ZN ρ) (IS (.int .i64 0))) := by
 rintro w u ⟨s, p, n, c, xs, rfl, h, rfl, hn⟩
 rw [sg_abs] at eρ
 rw [← eρ]
 exact zrtG w s p n c xs h _ rfl (by omega) (yjw hA)
abbrev ygq  : Rk := .box 24 zI
theorem zdc (w : World) (pa : Value) (nD nL nT K : Nat) (D : List Int) (L : List (List Int)) (τ : List Int) (dn : Int) (hD : nD ≤ 1048577) (hL : nL ≤ 1048576) (hT : nT ≤ 1048576) (hK : K ≤ 16777216) (lD : D.length = nD) (lL : L.length = nL) (lT : τ.length = nT) (u : Value) (k Ks KB KN KR : Nat) (sh : List Int) (b N R : Int) (h : Hs w (SP (AP pa nD nL nT K D L τ dn) (Vv k sh Ks) (Zv b KB) (Zv N KN) (Zv R KR)) u) (hk : k < nL) (ls : sh.length = k) (hnT : nT = nL) (hnD : nD = nL + 1) (r : Value) (rn rd D0 D1 lf : Int) (Kr : Nat) (hr : Hs w (PR (Zv rn Kr) (Zv rd Kr)) r) (hKr : Kr ≤ 67108864) (hKN : KN ≤ 134217728) (hKR : KR ≤ 134217728) (eD0 : D.getD (nL - 1 - k) 0 = D0) (eD1 : D.getD (nL - 1 - k + 1) 0 = D1) (elf : rn * (dn * dn) * (D1 * R) - N * rd = lf) (sq ρ : Int) (psi : Nat → Pr) (hl : (lf < 0 ∧ psi = (TWO (IS (.agg #[.bool false, .slice none 0 0])) (IS (.bool false)))) ∨ (0 ≤ lf ∧ rd * R ≠ 0 ∧ fl (lf * D0) (rd * R) = sq ∧ 0 ≤ sq ∧ ((rt sq.natAbs : Nat) : Int) = ρ ∧ psi = (TWO (ZN (ρ)) (IS (.bool true))))) :
  CG 134 #[u, r] w psi := by
 obtain ⟨_, _, _, _, _, ha, _, _, hNv, hRv⟩ := yqe h.now
 have hamd := ym5 ha
 have hpN := yg0 hNv
 have hpR := yg0 hRv
 obtain ⟨_, _, _, _, _, hrn, hrd⟩ := hr.now
 have hpn := yg0 hrn
 have hpd := yg0 hrd
 have hp0 : (digs D0.natAbs).length ≤ K := by rw [← eD0]; exact ydg hamd.1 _
 have hp1 : (digs D1.natAbs).length ≤ K := by rw [← eD1]; exact ydg hamd.1 _
 have q1 : (digs (dn * dn).natAbs).length ≤ 33554432 := by rw [zeq]; exact zdv (yas hamd.2.2.2 hamd.2.2.2) (by omega)
 have q2 : (digs (rn * (dn * dn)).natAbs).length ≤ 100663296 := by rw [zeq]; exact zdv (yas hpn q1) (by omega)
 have q3 : (digs (D1 * R).natAbs).length ≤ 150994944 := by rw [zeq]; exact zdv (yas hp1 hpR) (by omega)
 have q4 : (digs (rn * (dn * dn) * (D1 * R)).natAbs).length ≤ 251658240 := by rw [zeq]; exact zdv (yas q2 q3) (by omega)
 have q5 : (digs (N * rd).natAbs).length ≤ 251658240 := by rw [zeq]; exact zdv (yas hpN hpd) (by omega)
 have q6 : (digs (lf).natAbs).length ≤ 251658241 := by rw [← elf]; exact ydo q4 q5
 have q7 : (digs (lf * D0).natAbs).length ≤ 268435457 := by rw [zeq]; exact zdv (yas q6 hp0) (by omega)
 have q8 : (digs (rd * R).natAbs).length ≤ 201326592 := by rw [zeq]; exact zdv (yas hpd hpR) (by omega)
 refine yan (sl := [(0, (SP (AP pa nD nL nT K D L τ dn) (Vv k sh Ks) (Zv b KB) (Zv N KN) (Zv R KR))), (1, (PR (Zv rn Kr) (Zv rd Kr)))]) Tryz.func134 rfl Tryz.ntmps134 (by simp) (yai rfl (h) (yai rfl (hr) yar)) ?_
 intro a0 S0
 refine wq [.new (.box 75 (SP (AP pa nD nL nT K D L τ dn) (Vv k sh Ks) (Zv b KB) (Zv N KN) (Zv R KR))), .new (.box 26 (PR (Zv rn Kr) (Zv rd Kr))), .new (ygq), kF] [.inl 0, .inl 1, .inl 2] [] S0 ?_ ?_
 ·exact jj4 (bxA wA (oS 0 0) (yd7 yba)) (bxA wA (oS 1 1) (yb6 (yau yah yah))) (nwA wA yak) mC
 intro _ a1 _ (S1 : Zt [_,_,_] [])
 refine wq [V (Part a1 2 0), V (AP pa nD nL nT K D L τ dn), V (Part a1 2 0), V (AP pa nD nL nT K D L τ dn), V (AP pa nD nL nT K D L τ dn), V (AtE 2 (SF [(Vv nD D K), (Mv nL L K)])), V (AtE 1 (Vv nD D K)), V (Vv nD D K), V (SP (AP pa nD nL nT K D L τ dn) (Vv k sh Ks) (Zv b KB) (Zv N KN) (Zv R KR)), V (iV ((nL - 1 - k : Nat) : Int)), V (AtE 2 (Zv D0 K)), V (Zv D0 K), V (Part a1 2 0), V (AP pa nD nL nT K D L τ dn), V (AP pa nD nL nT K D L τ dn), V (AtE 2 (SF [(Vv nD D K), (Mv nL L K)])), V (AtE 1 (Vv nD D K)), V (Vv nD D K), V (SP (AP pa nD nL nT K D L τ dn) (Vv k sh Ks) (Zv b KB) (Zv N KN) (Zv R KR)), V (iV ((nL - 1 - k : Nat) : Int)), V (iV ((nL - 1 - k + 1 : Nat) : Int)), V (AtE 2 (Zv D1 K)), V (Zv D1 K), .new (ygq), .new (ygq), V (AP pa nD nL nT K D L τ dn), .put (.inr 23) (.box 24 (Zv D0 K)), .put (.inr 24) (.box 24 (Zv D1 K))] [.inr 0, .inr 1, .inr 2, .inl 23, .inl 24] [.inl 25] S1 ?_ ?_
 ·exact ⟨⟨⟨⟨⟨⟨⟨⟨⟨⟨⟨⟨⟨⟨⟨⟨⟨⟨⟨⟨jj8 (ptZ wA 0 ycp) (plA wA (oO 0 16) 0 rfl rfl (ya6 ydm (k := 0) rfl (by decide) (by decide))) (ptZ wA 0 ycp) (plA wA (oO 2 18) 0 rfl rfl (ya6 ydm (k := 0) rfl (by decide) (by decide))) (ycf rfl wA rfl (oO 3 19) yft rfl) (ybj (d := 0) rfl wA rfl ((oO 4 20).imp yf5) (fun ρ w b k h => yd4 ρ _ _ w b k h) ym4 rfl) (ybj (d := 0) rfl wA rfl (oO 5 21) (fun ρ w b k h => ye8 ρ _ _ w b k h) (ynq (f := 0) rfl) rfl) (alA wA ybx yfo (oO 6 22)), loA 0 wA ya0 yba⟩, ch1 wA (qO 8 24 rfl) (yaf _) (fun w u0 h0 => (yqf w pa nD nL nT K D L τ dn hD hL hT hK lD lL lT u0 _ _ _ _ _ _ _ _ _ h0 (by omega) ls ((nL - 1 - k : Nat) : Int) (by omega)))⟩, axA wA ycc (oO 7 23) (oO 9 25) (by rw [← eD0]; exact ygz (by omega)) rfl⟩, alC wA ya9 yah (oO 10 26)⟩, ptZ wA 0 ycp⟩, plA wA (oO 12 28) 0 rfl rfl (ya6 ydm (k := 0) rfl (by decide) (by decide))⟩, ycf rfl wA rfl (oO 13 29) yft rfl⟩, ybj (d := 0) rfl wA rfl ((oO 14 30).imp yf5) (fun ρ w b k h => yd4 ρ _ _ w b k h) ym4 rfl⟩, ybj (d := 0) rfl wA rfl (oO 15 31) (fun ρ w b k h => ye8 ρ _ _ w b k h) (ynq (f := 0) rfl) rfl⟩, alA wA ybx yfo (oO 16 32)⟩, loA 0 wA ya0 yba⟩, ch1 wA (qO 18 34 rfl) (yaf _) (fun w u0 h0 => (yqf w pa nD nL nT K D L τ dn hD hL hT hK lD lL lT u0 _ _ _ _ _ _ _ _ _ h0 (by omega) ls ((nL - 1 - k : Nat) : Int) (by omega)))⟩, ya7 wA (oO 19 35) (yab _)⟩, axA wA ycc (oO 17 33) (oO 20 36) (by rw [← eD1]; exact ygz (by omega)) rfl⟩, alC wA ya9 yah (oO 21 37)⟩, nwA wA yak⟩, nwA wA yak⟩, mO 1 17⟩, puA 23 wA (oO 11 27) yaa yao yah⟩, puA 24 wA (oO 22 38) yaa yao yah⟩
 intro _ a2 _ (S2 : Zt [_,_,_,_,_] [_])
 refine wq [V (Part a2 3 0), V (Zv rn Kr), V (AP pa nD nL nT K D L τ dn), V (AP pa nD nL nT K D L τ dn), V (AtE 2 (Zv dn K)), V (Zv dn K), V (AP pa nD nL nT K D L τ dn), V (AP pa nD nL nT K D L τ dn), V (AtE 2 (Zv dn K)), V (Zv dn K), Fw (ZN (dn * dn)) w, Fw (ZN (rn * (dn * dn))) w, V (Zv D1 K), V (Part a2 2 6), V (Zv R KR), Fw (ZN (D1 * R)) w, Fw (ZN ((rn * (dn * dn)) * (D1 * R))) w, .new (ygq), .put (.inr 17) (.box 24 ((ZN ((rn * (dn * dn)) * (D1 * R))) w.heap.size))] [.inr 0, .inr 1, .inr 2, .inr 3, .inl 17] [] S2 ?_ ?_
 ·exact ⟨⟨⟨⟨⟨⟨⟨⟨⟨⟨⟨jj8 (ptZ wA 1 ydr) (plA wA (oO 0 39) 1 rfl rfl yem) (mS 0 6) (ycf rfl wA rfl (oO 2 41) yft rfl) (ybj (d := 3) rfl wA rfl ((oO 3 42).imp yf5) (fun ρ w b k h => ygo ρ _ _ w b k h) ytv rfl) (alC wA ya9 yah (oO 4 43)) (mS 0 6) (ycf rfl wA rfl (oO 6 45) yft rfl), ybj (d := 3) rfl wA rfl ((oO 7 46).imp yf5) (fun ρ w b k h => ygo ρ _ _ w b k h) ytv rfl⟩, alC wA ya9 yah (oO 8 47)⟩, cc2 wA (qO 5 44 rfl) (qO 9 48 rfl) (yae _) (fun w u v h1 h2 => ydf (by omega) w u v ((fun _ _ h => h) _ _ h1) ((fun _ _ h => h) _ _ h2))⟩, cc2 wA (qO 1 40 rfl) (qO 10 49 rfl) (yae _) (fun w u v h1 h2 => ydf (by omega) w u v ((fun _ _ h => h) _ _ h1) ((yax q1) _ _ h2))⟩, loA 4 wA yaa yah⟩, ptA wA 0 ydx⟩, plA wA (oO 13 52) 0 rfl rfl (ya6 ya9 (k := 4) rfl (by decide) (by decide))⟩, cc2 wA (qO 12 51 rfl) (qO 14 53 rfl) (yae _) (fun w u v h1 h2 => ydf (by omega) w u v ((fun _ _ h => h) _ _ h1) ((fun _ _ h => h) _ _ h2))⟩, cc2 wA (qO 11 50 rfl) (qO 15 54 rfl) (yae _) (fun w u v h1 h2 => ydf (by omega) w u v ((yax q2) _ _ h1) ((yax q3) _ _ h2))⟩, nwA wA yak⟩, puA 17 wA (oO 16 55) yaa yao yad⟩
 intro _ a3 _ (S3 : Zt [_,_,_,_,_] [])
 refine wq [Fw (ZN ((rn * (dn * dn)) * (D1 * R))) w, V (Part a3 2 4), V (Zv N KN), V (Part a3 3 2), V (Zv rd Kr), Fw (ZN (N * rd)) w, Fw (ZN (lf)) w, .new (ygq), .put (.inr 7) (.box 24 ((ZN (lf)) w.heap.size))] [.inr 0, .inr 1, .inr 2, .inr 3, .inl 7] [] S3 ?_ ?_
 ·exact ⟨jj8 (loA 4 wA yaa yad) (ptA wA 0 yek) (plA wA (oO 1 57) 0 rfl rfl (ya6 ya9 (k := 3) rfl (by decide) (by decide))) (ptA wA 1 ycg) (plA wA (oO 3 59) 1 rfl rfl ych) (cc2 wA (qO 2 58 rfl) (qO 4 60 rfl) (yae _) (fun w u v h1 h2 => ydf (by omega) w u v ((fun _ _ h => h) _ _ h1) ((fun _ _ h => h) _ _ h2))) (cc2 wA (qO 0 56 rfl) (qO 5 61 rfl) (yae _) (fun w u0 u1 h0 h1 => Gives.cast (ψ := (ZN (lf))) ((fun w u v h1 h2 => yjd (by omega) (by omega) w u v ((yax q4) _ _ h1) ((yax q5) _ _ h2)) w u0 u1 h0 h1) (by rw [elf]))) (nwA wA yak), puA 7 wA (oO 6 62) yaa yao yad⟩
 intro _ a4 _ (S4 : Zt [_,_,_,_,_] [])
 rcases hl with ⟨hl, rfl⟩ | ⟨hl, hnz, eS, hs0, eρ, rfl⟩
 ·skip
  have hsg : lf.sign < 0 := by rw [zen hl]; decide
  refine wp_seq ?_
  refine wq [Fw (ZN (lf)) w, V (iV ((lf).sign)), kT] ur5 [.inl 2] S4 ?_ ?_
  ·exact jj3 (loA 4 wA yaa yad) (cc1 wA (qO 0 63 rfl) (yaf _) (fun w u h1 => yex (by omega) w u ((yax q6) _ _ h1))) (ybh wA (oO 1 64) (yab _) (h := hsg))
  intro B5 a5 W5 (S5 : Zt [_,_,_,_,_] [_])
  refine wp_cond_true (S5.bool 0 65 rfl) ?_
  refine wq [.val zI, .put (.inl 4) (ygq), kF] [.inr 0, .inr 2] [.inl 2] S5 ?_ ?_
  ·exact jj3 (ybm rfl wA rfl rfl) (seA 2 wA (oO 0 66) yaa yao yao) mC
  intro B6 a6 W6 (S6 : Zt [_,_] [_])
  refine wp_ret (thenR ?_)
  exact ycv S6 rfl (yaw S6 1 4 rfl yaa yao) (ya8 S6 0 5 rfl)
 ·skip
  have hsg : 0 ≤ lf.sign := yjw hl
  have q9 : (digs sq.natAbs).length ≤ 268435458 := by rw [← eS]; exact yib hnz q7
  refine wp_seq ?_
  refine wq [Fw (ZN (lf)) w, V (iV ((lf).sign)), kF] ur5 [.inl 2] S4 ?_ ?_
  ·exact jj3 (loA 4 wA yaa yad) (cc1 wA (qO 0 63 rfl) (yaf _) (fun w u h1 => yex (by omega) w u ((yax q6) _ _ h1))) (ya3 wA (oO 1 64) (yab _) (h := hsg))
  intro B5 a5 W5 (S5 : Zt [_,_,_,_,_] [_])
  refine wp_cond_false (S5.bool 0 65 rfl) (wp_skip (thenN ?_))
  refine wq [Fw (ZN (lf)) w, V (Zv D0 K), Fw (ZN (lf * D0)) w, V (Part a5 3 2), V (Zv rd Kr), V (Part a5 2 6), V (Zv R KR), Fw (ZN (rd * R)) w, Fw (THREE (ZN (sq)) (ZN (rm (lf * D0) (rd * R))) (IS (.int .i64 0))) w, Fw (THREE (ZN (sq)) (ZN (rm (lf * D0) (rd * R))) (IS (.int .i64 0))) w, Fw (ZN (sq)) w, Fw (ZN (rm (lf * D0) (rd * R))) w, V (iV 0), .new (ygq), .new (ygq), .put (.inr 13) (.box 24 ((ZN (sq)) w.heap.size)), .put (.inr 14) (.box 24 ((ZN (rm (lf * D0) (rd * R))) w.heap.size)), V (iV 0)] [.inr 0, .inr 2, .inl 13, .inl 14] [] S5 ?_ ?_
  ·exact ⟨⟨⟨⟨⟨⟨⟨⟨⟨⟨jj8 (loA 4 wA yaa yad) (loA 3 wA yaa yah) (cc2 wA (qO 0 68 rfl) (qO 1 69 rfl) (yae _) (fun w u v h1 h2 => ydf (by omega) w u v ((yax q6) _ _ h1) ((fun _ _ h => h) _ _ h2))) (ptA wA 1 ycg) (plA wA (oO 3 71) 1 rfl rfl ych) (ptA wA 0 ydx) (plA wA (oO 5 73) 0 rfl rfl (ya6 ya9 (k := 4) rfl (by decide) (by decide))) (cc2 wA (qO 4 72 rfl) (qO 6 74 rfl) (yae _) (fun w u v h1 h2 => ydf (by omega) w u v ((fun _ _ h => h) _ _ h1) ((fun _ _ h => h) _ _ h2))), cc2 wA (qO 2 70 rfl) (qO 7 75 rfl) (ybv (yae _) (yae _) (yaf _)) (fun w u v h1 h2 => Gives.cast (ψ := (THREE (ZN (sq)) (ZN (rm (lf * D0) (rd * R))) (IS (.int .i64 0)))) (ygg hnz (by omega) (by omega) w u v ((yax q7) _ _ h1) ((yax q8) _ _ h2)) (by rw [eS]))⟩, mO 8 76⟩, e30 wA (oO 9 67)⟩, e31 wA (oO 9 67)⟩, e32 wA (oO 9 67)⟩, nwA wA yak⟩, nwA wA yak⟩, puA 13 wA (oO 10 77) yaa yao yad⟩, puA 14 wA (oO 11 78) yaa yao yad⟩, mO 12 79⟩
  intro B6 a6 W6 (S6 : Zt [_,_,_,_] [])
  refine wq [Fw (ZN (sq)) w, Fw (TWO (ZN (ρ)) (IS (.int .i64 0))) w, Fw (TWO (ZN (ρ)) (IS (.int .i64 0))) w, Fw (ZN (ρ)) w, V (iV 0), .new (ygq), .put (.inr 5) (.box 24 ((ZN (ρ)) w.heap.size)), V (iV 0)] [.inr 0, .inr 1, .inl 5] [] S6 ?_ ?_
  ·repeat' refine And.intro ?_ ?_
   ·trivial
   ·exact loA 2 wA yaa yad
   ·exact cc1 wA (qO 0 81 rfl) (ybl (yae _) (yaf _)) (fun w u h1 => yuh (by omega) hs0 eρ w u ((yax q9) _ _ h1))
   ·exact mO 1 82
   ·exact e20 wA (oO 2 80)
   ·exact e21 wA (oO 2 80)
   ·exact nwA wA yak
   ·exact puA 5 wA (oO 3 83) yaa yao yad
   ·exact mO 4 84
  intro _ a7 _ (S7 : Zt [_,_,_] [])
  refine wq [Fw (ZN (ρ)) w, .put (.inl 4) (.box 24 ((ZN (ρ)) w.heap.size)), kT] ur2 [.inl 2] S7 ?_ ?_
  ·exact jj3 (loA 2 wA yaa yad) (seA 1 wA (oO 0 85) yaa yao yad) mC
  intro _ a8 _ (S8 : Zt [_,_] [_])
  refine wp_ret ?_
  exact ycv S8 rfl (yaw S8 1 4 rfl yaa yad) (ya8 S8 0 5 rfl)
abbrev yfp  : Rk := .box 24 zI
theorem zdp (w : World) (pa : Value) (nD nL nT K : Nat) (D : List Int) (L : List (List Int)) (τ : List Int) (dn : Int) (hD : nD ≤ 1048577) (hL : nL ≤ 1048576) (hT : nT ≤ 1048576) (hK : K ≤ 16777216) (lD : D.length = nD) (lL : L.length = nL) (lT : τ.length = nT) (u : Value) (k Ks KB KN KR : Nat) (sh : List Int) (b N R : Int) (h : Hs w (SP (AP pa nD nL nT K D L τ dn) (Vv k sh Ks) (Zv b KB) (Zv N KN) (Zv R KR)) u) (hk : k < nL) (ls : sh.length = k) (hnT : nT = nL) (hnD : nD = nL + 1) (r : Value) (rn rd T0 D1 cn cd : Int) (Kr : Nat) (hr : Hs w (PR (Zv rn Kr) (Zv rd Kr)) r) (hKB : KB ≤ 134217728) (eT : τ.getD (nL - 1 - k) 0 = T0) (eD : D.getD (nL - 1 - k + 1) 0 = D1) (ecn : T0 * D1 - b = cn) (ecd : dn * D1 = cd) (ρ hi tn : Int) (hρ : (digs ρ.natAbs).length ≤ 268435458) (hcd : cd ≠ 0) (eH : fl (cn + ρ) cd = hi) (eL : fl (ρ - cn) cd = tn) (hre : ∀ (w : World) (u r : Value), Hs w (SP (AP pa nD nL nT K D L τ dn) (Vv k sh Ks) (Zv b KB) (Zv N KN) (Zv R KR)) u → Hs w (PR (Zv rn Kr) (Zv rd Kr)) r → CG 134 #[u, r] w (TWO (ZN (ρ)) (IS (.bool true)))) (psi : Nat → Pr) (hx : (hi < -tn ∧ psi = (THREE (IS (.agg #[.bool false, .slice none 0 0])) (IS (.agg #[.bool false, .slice none 0 0])) (IS (.bool false)))) ∨ (-tn ≤ hi ∧ psi = (THREE (ZN (-tn)) (ZN (hi)) (IS (.bool true))))) :
  CG 125 #[u, r] w psi := by
 obtain ⟨_, _, _, _, _, ha, _, hbv, _, _⟩ := yqe h.now
 have hamd := ym5 ha
 have hpb := yg0 hbv
 have hp1 : (digs D1.natAbs).length ≤ K := by rw [← eD]; exact ydg hamd.1 _
 have hpT : (digs T0.natAbs).length ≤ K := by rw [← eT]; exact ydg hamd.2.2.1 _
 have q1 : (digs (T0 * D1).natAbs).length ≤ 134217728 := by rw [zeq]; exact zdv (yas hpT hp1) (by omega)
 have q2 : (digs (cn).natAbs).length ≤ 134217729 := by rw [← ecn]; exact ydo q1 (zdv hpb hKB)
 have q3 : (digs (cd).natAbs).length ≤ 33554432 := by rw [← ecd]; rw [zeq]; exact zdv (yas hamd.2.2.2 hp1) (by omega)
 have q4 : (digs (cn + ρ).natAbs).length ≤ 268435459 := yh8 (zdv q2 (by omega)) hρ
 have q5 : (digs (ρ - cn).natAbs).length ≤ 268435459 := ydo hρ (zdv q2 (by omega))
 have q6 : (digs (hi).natAbs).length ≤ 268435460 := by rw [← eH]; exact yib hcd q4
 have q7 : (digs (tn).natAbs).length ≤ 268435460 := by rw [← eL]; exact yib hcd q5
 have q8 : (digs (-tn).natAbs).length ≤ 268435460 := by rw [Int.natAbs_neg]; exact q7
 refine yan (sl := [(0, (SP (AP pa nD nL nT K D L τ dn) (Vv k sh Ks) (Zv b KB) (Zv N KN) (Zv R KR))), (1, (PR (Zv rn Kr) (Zv rd Kr)))]) Tryz.func125 rfl Tryz.ntmps125 (by simp) (yai rfl (h) (yai rfl (hr) yar)) ?_
 intro a0 S0
 refine wq [.new (.box 75 (SP (AP pa nD nL nT K D L τ dn) (Vv k sh Ks) (Zv b KB) (Zv N KN) (Zv R KR))), .new (.box 26 (PR (Zv rn Kr) (Zv rd Kr))), .new (yfp), .new (yfp), kF] [.inl 0, .inl 1, .inl 2, .inl 3] [] S0 ?_ ?_
 ·exact jj5 (bxA wA (oS 0 0) (yd7 yba)) (bxA wA (oS 1 1) (yb6 (yau yah yah))) (nwA wA yak) (nwA wA yak) mC
 intro _ a1 _ (S1 : Zt [_,_,_,_] [])
 refine wq [V (SP (AP pa nD nL nT K D L τ dn) (Vv k sh Ks) (Zv b KB) (Zv N KN) (Zv R KR)), V (PR (Zv rn Kr) (Zv rd Kr)), Fw (TWO (ZN (ρ)) (IS (.bool true))) w, Fw (TWO (ZN (ρ)) (IS (.bool true))) w, Fw (ZN (ρ)) w, kT, .new (yfp), .put (.inr 6) (.box 24 ((ZN (ρ)) w.heap.size)), kT] [.inr 0, .inr 2, .inr 3, .inl 6] [.inl 8] S1 ?_ ?_
 ·exact ⟨jj8 (loA 0 wA ya0 yba) (loA 1 wA yaq (yau yah yah)) (ch2 wA (qO 0 18 rfl) (qO 1 19 rfl) (ybl (yae _) (yaf _)) (fun w u r h1 h2 => hre w u r h1 h2)) (mO 2 20) (e20 wA (oO 3 17)) (e21 wA (oO 3 17)) (nwA wA yak) (puA 6 wA (oO 4 21) yaa yao yad), mO 5 22⟩
 intro _ a2 _ (S2 : Zt [_,_,_,_] [_])
 refine wp_seq ?_
 refine wq [kT, kF] ur4 [.inl 1] S2 ?_ ?_
 ·exact jj2 (mS 0 8) (yfl wA (oO 0 23))
 intro _ a3 _ (S3 : Zt [_,_,_,_] [_])
 refine wp_cond_false (S3.bool 0 24 rfl) (wp_skip (thenN ?_))
 refine wq [V (SP (AP pa nD nL nT K D L τ dn) (Vv k sh Ks) (Zv b KB) (Zv N KN) (Zv R KR)), Fw (PRF (ZN (cn)) (ZN (cd))) w, .new (.box 26 zR), .put (.inr 2) (.box 26 ((PRF (ZN (cn)) (ZN (cd))) w.heap.size))] [.inr 0, .inr 1, .inr 2, .inr 3, .inl 2] [] S3 ?_ ?_
 ·exact jj4 (loA 0 wA ya0 yba) (ch1 wA (qO 0 27 rfl) (ygd (yae _) (yae _)) (fun w u0 h0 => Gives.cast (zbq w pa nD nL nT K D L τ dn hD hL hT hK lD lL lT u0 _ _ _ _ _ _ _ _ _ h0 hk ls hnT hnD T0 D1 eT eD hKB) (by rw [ecn, ecd]))) (nwA wA yc5) (puA 2 wA (oO 1 28) yaq yfr (yau yad yad))
 intro _ a4 _ (S4 : Zt [_,_,_,_,_] [])
 refine wq [V (Part a4 9 0), Fw (ZN (cn)) w, Fw (ZN (ρ)) w, Fw (ZN (cn + ρ)) w, V (Part a4 9 2), Fw (ZN (cd)) w, Fw (THREE (ZN (hi)) (ZN (rm (cn + ρ) cd)) (IS (.int .i64 0))) w, Fw (THREE (ZN (hi)) (ZN (rm (cn + ρ) cd)) (IS (.int .i64 0))) w, Fw (ZN (hi)) w, Fw (ZN (rm (cn + ρ) cd)) w, V (iV 0), .new (yfp), .new (yfp), .put (.inr 11) (.box 24 ((ZN (hi)) w.heap.size)), .put (.inr 12) (.box 24 ((ZN (rm (cn + ρ) cd)) w.heap.size)), V (iV 0)] [.inr 0, .inr 1, .inr 2, .inr 3, .inr 4, .inl 11, .inl 12] [] S4 ?_ ?_
 ·exact ⟨⟨⟨⟨⟨⟨⟨⟨jj8 (ptZ wA 4 ydr) (plA wA (oO 0 30) 4 rfl rfl yem) (loA 3 wA yaa yad) (cc2 wA (qO 1 31 rfl) (qO 2 32 rfl) (yae _) (fun w u v h1 h2 => yjc (by omega) (by omega) w u v ((yax q2) _ _ h1) ((yax hρ) _ _ h2))) (ptA wA 4 ycg) (plA wA (oO 4 34) 4 rfl rfl ych) (cc2 wA (qO 3 33 rfl) (qO 5 35 rfl) (ybv (yae _) (yae _) (yaf _)) (fun w u v h1 h2 => Gives.cast (ψ := (THREE (ZN (hi)) (ZN (rm (cn + ρ) cd)) (IS (.int .i64 0)))) (ygg hcd (by omega) (by omega) w u v ((yax q4) _ _ h1) ((yax q3) _ _ h2)) (by rw [eH]))) (mO 6 36), e30 wA (oO 7 29)⟩, e31 wA (oO 7 29)⟩, e32 wA (oO 7 29)⟩, nwA wA yak⟩, nwA wA yak⟩, puA 11 wA (oO 8 37) yaa yao yad⟩, puA 12 wA (oO 9 38) yaa yao yad⟩, mO 10 39⟩
 intro _ a5 _ (S5 : Zt [_,_,_,_,_,_,_] [])
 refine wq [Fw (ZN (ρ)) w, V (Part a5 9 0), Fw (ZN (cn)) w, Fw (ZN (ρ - cn)) w, V (Part a5 9 2), Fw (ZN (cd)) w, Fw (THREE (ZN (tn)) (ZN (rm (ρ - cn) cd)) (IS (.int .i64 0))) w, Fw (THREE (ZN (tn)) (ZN (rm (ρ - cn) cd)) (IS (.int .i64 0))) w, Fw (ZN (tn)) w, Fw (ZN (rm (ρ - cn) cd)) w, V (iV 0), .new (yfp), .new (yfp), .put (.inr 11) (.box 24 ((ZN (tn)) w.heap.size)), .put (.inr 12) (.box 24 ((ZN (rm (ρ - cn) cd)) w.heap.size)), V (iV 0)] [.inr 0, .inr 1, .inr 2, .inr 5, .inl 11, .inl 12] [] S5 ?_ ?_
 ·exact ⟨⟨⟨⟨⟨⟨⟨⟨jj8 (loA 3 wA yaa yad) (ptZ wA 4 ydr) (plA wA (oO 1 42) 4 rfl rfl yem) (cc2 wA (qO 0 41 rfl) (qO 2 43 rfl) (yae _) (fun w u v h1 h2 => yjd (by omega) (by omega) w u v ((yax hρ) _ _ h1) ((yax q2) _ _ h2))) (ptA wA 4 ycg) (plA wA (oO 4 45) 4 rfl rfl ych) (cc2 wA (qO 3 44 rfl) (qO 5 46 rfl) (ybv (yae _) (yae _) (yaf _)) (fun w u v h1 h2 => Gives.cast (ψ := (THREE (ZN (tn)) (ZN (rm (ρ - cn) cd)) (IS (.int .i64 0)))) (ygg hcd (by omega) (by omega) w u v ((yax q5) _ _ h1) ((yax q3) _ _ h2)) (by rw [eL]))) (mO 6 47), e30 wA (oO 7 40)⟩, e31 wA (oO 7 40)⟩, e32 wA (oO 7 40)⟩, nwA wA yak⟩, nwA wA yak⟩, puA 11 wA (oO 8 48) yaa yao yad⟩, puA 12 wA (oO 9 49) yaa yao yad⟩, mO 10 50⟩
 intro _ a6 _ (S6 : Zt [_,_,_,_,_,_] [])
 refine wq [Fw (ZN (tn)) w, Fw (ZN (-tn)) w, .new (yfp), .put (.inr 2) (.box 24 ((ZN (-tn)) w.heap.size))] [.inr 0, .inr 1, .inr 2, .inr 3, .inl 2] [] S6 ?_ ?_
 ·exact jj4 (loA 4 wA yaa yad) (cc1 wA (qO 0 51 rfl) (yae _) (fun w u h1 => zaf (by omega) w u ((yax q7) _ _ h1))) (nwA wA yak) (puA 2 wA (oO 1 52) yaa yao yad)
 intro _ a7 _ (S7 : Zt [_,_,_,_,_] [])
 rcases hx with ⟨hx, rfl⟩ | ⟨hx, rfl⟩
 ·skip
  have hsg : 0 < (-tn - hi).sign := by rw [zes (by omega)]; decide
  refine wp_seq ?_
  refine wq [Fw (ZN (-tn)) w, Fw (ZN (hi)) w, V (iV (((-tn) - hi).sign)), kT] ur5 [.inl 3] S7 ?_ ?_
  ·exact jj4 (loA 4 wA yaa yad) (loA 3 wA yaa yad) (cc2 wA (qO 0 53 rfl) (qO 1 54 rfl) (yaf _) (fun w u v h1 h2 => ygh (by omega) (by omega) w u v ((yax q8) _ _ h1) ((yax q6) _ _ h2))) (ydz wA (oO 2 55) (yab _) (h := hsg))
  intro B8 a8 W8 (S8 : Zt [_,_,_,_,_] [_])
  refine wp_cond_true (S8.bool 0 56 rfl) ?_
  refine wq [.val zI, .val zI, .put (.inl 4) (yfp), .put (.inl 5) (yfp), kF] ur3 [.inl 4] S8 ?_ ?_
  ·exact jj5 (ybm rfl wA rfl rfl) (ybm rfl wA rfl rfl) (seA 1 wA (oO 0 57) yaa yao yao) (seA 2 wA (oO 1 58) yaa yao yao) mC
  intro B9 a9 W9 (S9 : Zt [_,_,_] [_])
  refine wp_ret (thenR ?_)
  exact ylw S9 rfl (yaw S9 1 4 rfl yaa yao) (yaw S9 2 5 rfl yaa yao) (ya8 S9 0 6 rfl)
 ·skip
  have hsg : (-tn - hi).sign ≤ 0 := yhy (by omega)
  refine wp_seq ?_
  refine wq [Fw (ZN (-tn)) w, Fw (ZN (hi)) w, V (iV (((-tn) - hi).sign)), kF] ur5 [.inl 3] S7 ?_ ?_
  ·exact jj4 (loA 4 wA yaa yad) (loA 3 wA yaa yad) (cc2 wA (qO 0 53 rfl) (qO 1 54 rfl) (yaf _) (fun w u v h1 h2 => ygh (by omega) (by omega) w u v ((yax q8) _ _ h1) ((yax q6) _ _ h2))) (ycj wA (oO 2 55) (yab _) (h := hsg))
  intro B8 a8 W8 (S8 : Zt [_,_,_,_,_] [_])
  refine wp_cond_false (S8.bool 0 56 rfl) (wp_skip (thenN ?_))
  refine wq [Fw (ZN (-tn)) w, Fw (ZN (hi)) w, .put (.inl 4) (.box 24 ((ZN (-tn)) w.heap.size)), .put (.inl 5) (.box 24 ((ZN (hi)) w.heap.size)), kT] ur3 [.inl 4] S8 ?_ ?_
  ·exact jj5 (loA 4 wA yaa yad) (loA 3 wA yaa yad) (seA 1 wA (oO 0 59) yaa yao yad) (seA 2 wA (oO 1 60) yaa yao yad) mC
  intro B9 a9 W9 (S9 : Zt [_,_,_] [_])
  refine wp_ret ?_
  exact ylw S9 rfl (yaw S9 1 4 rfl yaa yad) (yaw S9 2 5 rfl yaa yad) (ya8 S9 0 6 rfl)
end Go.Proofs.YtdnindaohpdblaaGreat
