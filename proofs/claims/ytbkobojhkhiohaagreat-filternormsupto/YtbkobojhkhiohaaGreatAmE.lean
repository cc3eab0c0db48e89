import Derived.Test.YtbkobojhkhiohaaGreatJaC
set_option linter.all false
namespace Go.Proofs.YtbkobojhkhiohaaGreat
open Go Go.RowKit Nt
set_option maxRecDepth 20000
set_option maxHeartbeats 16000000
section
variable {ops : Array Oper} {l : List Kd} {bx : Bxs} {sl : List (Tmp × Pr)} {i : Nat} {o : Oper} {Q : Exit → Act → World → Prop} {a0 : Act} {n : Nat} {w0 : World}
end

theorem zrtG (w : World) (s : Bool) (p : Option Addr) (n c : Nat) (xs : List Nat) (h : Sl w p n c xs) (A : Int) (eA : sg s (val xs) = A) (hn : n ≤ 1073741824) (hA : 0 ≤ A.sign) :
  Calls Tryz.prog 88 #[.agg #[.bool s, .slice p n c]] w (Gives (TWO (ZN (sg false (rt (val xs)))) (IS (.int .i64 0))) w) := by
 have drt := zct h
 have dA : (digs A.natAbs).length ≤ n := by rw [← eA]; exact ygv h
 refine yan (sl := [(0, (Zx s p n c xs))]) Tryz.func88 rfl Tryz.ntmps88 (by simp) (yad rfl (yfp h) yar) ?_
 intro a0 S0
 refine wq [.new (.box 29 (Zx s p n c xs)), .new (.box 29 zI), V (iV 0)] [.inl 0, .inl 1] [] S0 ?_ ?_
 ·exact jj3 (bxA wA (oS 0 0) (ycz ycm)) (nwA wA yal) mC
 intro _ a1 _ (S1 : Zt [_,_] [])
 refine wp_seq ?_
 refine wq [V (Zx s p n c xs), V (iV ((A).sign)), kF] ur2 [.inl 2] S1 ?_ ?_
 ·exact jj3 (loA 0 wA yaa ycm) (cc1 wA (qO 0 4 rfl) (yaf _) (fun w u h1 => zbe (by omega) w u ((ygc eA (ze5 _)) _ _ h1))) (ybl wA (oO 1 5) (yab _) (h := hA))
 intro _ a2 _ (S2 : Zt [_,_] [_])
 refine wp_cond_false (S2.bool 0 6 rfl) (wp_skip (thenN ?_))
 refine wq [V (Part a2 1 1), V (Nx p n c xs), Fw (NN (rt (val xs))) w, Fw (ZN (sg false (rt (val xs)))) w, .put (.inl 2) (.box 29 ((ZN (sg false (rt (val xs)))) w.heap.size)), V (iV 0)] [.inr 1] [.inl 5] S2 ?_ ?_
 ·exact jj6 (ptA wA 0 yc4) (plA wA (oO 0 8) 0 rfl rfl (yc5 yfq)) (cc1 wA (qO 1 9 rfl) (ydg _) (fun w u h1 => zbb (by omega) w u ((yii (ze5 _)) _ _ h1))) (yjn rfl wA rfl (yab _) (oO 2 10) rfl (fun args w => by go_simp) yo2) (seA 1 wA (oO 3 11) yaa yao yah) mC
 intro _ a3 _ (S3 : Zt [_] [_])
 refine wp_ret ?_
 exact ydc S3 rfl (yau S3 0 2 rfl yaa yah) (yaw S3 0 3 rfl)
theorem yu3 {A : Int} {k : Nat} {ρ : Int} (hk : k ≤ 1073741824) (hA : 0 ≤ A) (eρ : ((rt A.natAbs : Nat) : Int) = ρ) : ∀ w u, Zv A k u w → CG 88 #[u] w (TWO (ZN ρ) (IS (.int .i64 0))) := by
 rintro w u ⟨s, p, n, c, xs, rfl, h, rfl, hn⟩
 rw [sg_abs] at eρ
 rw [← eρ]
 exact zrtG w s p n c xs h _ rfl (by omega) (ytr hA)
abbrev ygt  : Rk := .box 29 zI
theorem yzg (w : World) (pa : Value) (nD nL nT K : Nat) (D : List Int) (L : List (List Int)) (τ : List Int) (dn : Int) (hD : nD ≤ 1048577) (hL : nL ≤ 1048576) (hT : nT ≤ 1048576) (hK : K ≤ 16777216) (lD : D.length = nD) (lL : L.length = nL) (lT : τ.length = nT) (u : Value) (k Ks KB KN KR : Nat) (sh : List Int) (b N R : Int) (h : Hs w (SP (AP pa nD nL nT K D L τ dn) (Vv k sh Ks) (Zv b KB) (Zv N KN) (Zv R KR)) u) (hk : k < nL) (ls : sh.length = k) (hnT : nT = nL) (hnD : nD = nL + 1) (r : Value) (rn rd D0 D1 lf : Int) (Kr : Nat) (hr : Hs w (PR (Zv rn Kr) (Zv rd Kr)) r) (hKr : Kr ≤ 67108864) (hKN : KN ≤ 134217728) (hKR : KR ≤ 134217728) (eD0 : D.getD (nL - 1 - k) 0 = D0) (eD1 : D.getD (nL - 1 - k + 1) 0 = D1) (elf : rn * (dn * dn) * (D1 * R) - N * rd = lf) (sq ρ : Int) (psi : Nat → Pr) (hl : (lf < 0 ∧ psi = (TWO (IS (.agg #[.bool false, .slice none 0 0])) (IS (.bool false)))) ∨ (0 ≤ lf ∧ rd * R ≠ 0 ∧ fl (lf * D0) (rd * R) = sq ∧ 0 ≤ sq ∧ ((rt sq.natAbs : Nat) : Int) = ρ ∧ psi = (TWO (ZN (ρ)) (IS (.bool true))))) :
  CG 61 #[u, r] w psi := by
 obtain ⟨_, _, _, _, _, ha, _, _, hNv, hRv⟩ := yn8 h.now
 have hamd := yls ha
 have hpN := ydz hNv
 have hpR := ydz hRv
 obtain ⟨_, _, _, _, _, hrn, hrd⟩ := hr.now
 have hpn := ydz hrn
 have hpd := ydz hrd
 have hp0 : (digs D0.natAbs).length ≤ K := by rw [← eD0]; exact ybq hamd.1 _
 have hp1 : (digs D1.natAbs).length ≤ K := by rw [← eD1]; exact ybq hamd.1 _
 have q1 : (digs (dn * dn).natAbs).length ≤ 33554432 := by rw [zft]; exact ze6 (yam hamd.2.2.2 hamd.2.2.2) (by omega)
 have q2 : (digs (rn * (dn * dn)).natAbs).length ≤ 100663296 := by rw [zft]; exact ze6 (yam hpn q1) (by omega)
 have q3 : (digs (D1 * R).natAbs).length ≤ 150994944 := by rw [zft]; exact ze6 (yam hp1 hpR) (by omega)
 have q4 : (digs (rn * (dn * dn) * (D1 * R)).natAbs).length ≤ 251658240 := by rw [zft]; exact ze6 (yam q2 q3) (by omega)
 have q5 : (digs (N * rd).natAbs).length ≤ 251658240 := by rw [zft]; exact ze6 (yam hpN hpd) (by omega)
 have q6 : (digs (lf).natAbs).length ≤ 251658241 := by rw [← elf]; exact yds q4 q5
 have q7 : (digs (lf * D0).natAbs).length ≤ 268435457 := by rw [zft]; exact ze6 (yam q6 hp0) (by omega)
 have q8 : (digs (rd * R).natAbs).length ≤ 201326592 := by rw [zft]; exact ze6 (yam hpd hpR) (by omega)
 refine yan (sl := [(0, (SP (AP pa nD nL nT K D L τ dn) (Vv k sh Ks) (Zv b KB) (Zv N KN) (Zv R KR))), (1, (PR (Zv rn Kr) (Zv rd Kr)))]) Tryz.func61 rfl Tryz.ntmps61 (by simp) (yad rfl (h) (yad rfl (hr) yar)) ?_
 intro a0 S0
 refine wq [.new (.box 52 (SP (AP pa nD nL nT K D L τ dn) (Vv k sh Ks) (Zv b KB) (Zv N KN) (Zv R KR))), .new (.box 31 (PR (Zv rn Kr) (Zv rd Kr))), .new (ygt), kF] [.inl 0, .inl 1, .inl 2] [] S0 ?_ ?_
 ·exact jj4 (bxA wA (oS 0 0) (ydq ybz)) (bxA wA (oS 1 1) (ycn (ya2 yak yak))) (nwA wA yal) mC
 intro _ a1 _ (S1 : Zt [_,_,_] [])
 refine wq [V (Part a1 2 0), V (AP pa nD nL nT K D L τ dn), V (Part a1 2 0), V (AP pa nD nL nT K D L τ dn), V (AP pa nD nL nT K D L τ dn), V (AtE 2 (SF [(Vv nD D K), (Mv nL L K)])), V (AtE 1 (Vv nD D K)), V (Vv nD D K), V (SP (AP pa nD nL nT K D L τ dn) (Vv k sh Ks) (Zv b KB) (Zv N KN) (Zv R KR)), V (iV ((nL - 1 - k : Nat) : Int)), V (AtE 2 (Zv D0 K)), V (Zv D0 K), V (Part a1 2 0), V (AP pa nD nL nT K D L τ dn), V (AP pa nD nL nT K D L τ dn), V (AtE 2 (SF [(Vv nD D K), (Mv nL L K)])), V (AtE 1 (Vv nD D K)), V (Vv nD D K), V (SP (AP pa nD nL nT K D L τ dn) (Vv k sh Ks) (Zv b KB) (Zv N KN) (Zv R KR)), V (iV ((nL - 1 - k : Nat) : Int)), V (iV ((nL - 1 - k + 1 : Nat) : Int)), V (AtE 2 (Zv D1 K)), V (Zv D1 K), .new (ygt), .new (ygt), V (AP pa nD nL nT K D L τ dn), .put (.inr 23) (.box 29 (Zv D0 K)), .put (.inr 24) (.box 29 (Zv D1 K))] [.inr 0, .inr 1, .inr 2, .inl 23, .inl 24] [.inl 25] S1 ?_ ?_
 ·exact ⟨⟨⟨⟨⟨⟨⟨⟨⟨⟨⟨⟨⟨⟨⟨⟨⟨⟨⟨⟨jj8 (ptZ wA 0 ycc) (plA wA (oO 0 16) 0 rfl rfl (ybf yc9 (k := 0) rfl (by decide) (by decide))) (ptZ wA 0 ycc) (plA wA (oO 2 18) 0 rfl rfl (ybf yc9 (k := 0) rfl (by decide) (by decide))) (yb7 rfl wA rfl (oO 3 19) ye6 rfl) (ybg (d := 0) rfl wA rfl ((oO 4 20).imp ye7) (fun ρ w b k h => ydt ρ _ _ w b k h) ylr rfl) (ybg (d := 0) rfl wA rfl (oO 5 21) (fun ρ w b k h => yeo ρ _ _ w b k h) (ymx (f := 0) rfl) rfl) (alA wA yb4 yeb (oO 6 22)), loA 0 wA ya6 ybz⟩, ch1 wA (qO 8 24 rfl) (yaf _) (fun w u0 h0 => (yoa w pa nD nL nT K D L τ dn hD hL hT hK lD lL lT u0 _ _ _ _ _ _ _ _ _ h0 (by omega) ls ((nL - 1 - k : Nat) : Int) (by omega)))⟩, axA wA ybr (oO 7 23) (oO 9 25) (by rw [← eD0]; exact yd3 (by omega)) rfl⟩, alC wA ya9 yak (oO 10 26)⟩, ptZ wA 0 ycc⟩, plA wA (oO 12 28) 0 rfl rfl (ybf yc9 (k := 0) rfl (by decide) (by decide))⟩, yb7 rfl wA rfl (oO 13 29) ye6 rfl⟩, ybg (d := 0) rfl wA rfl ((oO 14 30).imp ye7) (fun ρ w b k h => ydt ρ _ _ w b k h) ylr rfl⟩, ybg (d := 0) rfl wA rfl (oO 15 31) (fun ρ w b k h => yeo ρ _ _ w b k h) (ymx (f := 0) rfl) rfl⟩, alA wA yb4 yeb (oO 16 32)⟩, loA 0 wA ya6 ybz⟩, ch1 wA (qO 18 34 rfl) (yaf _) (fun w u0 h0 => (yoa w pa nD nL nT K D L τ dn hD hL hT hK lD lL lT u0 _ _ _ _ _ _ _ _ _ h0 (by omega) ls ((nL - 1 - k : Nat) : Int) (by omega)))⟩, yba wA (oO 19 35) (yab _)⟩, axA wA ybr (oO 17 33) (oO 20 36) (by rw [← eD1]; exact yd3 (by omega)) rfl⟩, alC wA ya9 yak (oO 21 37)⟩, nwA wA yal⟩, nwA wA yal⟩, mO 1 17⟩, puA 23 wA (oO 11 27) yaa yao yak⟩, puA 24 wA (oO 22 38) yaa yao yak⟩
 intro _ a2 _ (S2 : Zt [_,_,_,_,_] [_])
 refine wq [V (Part a2 3 0), V (Zv rn Kr), V (AP pa nD nL nT K D L τ dn), V (AP pa nD nL nT K D L τ dn), V (AtE 2 (Zv dn K)), V (Zv dn K), V (AP pa nD nL nT K D L τ dn), V (AP pa nD nL nT K D L τ dn), V (AtE 2 (Zv dn K)), V (Zv dn K), Fw (ZN (dn * dn)) w, Fw (ZN (rn * (dn * dn))) w, V (Zv D1 K), V (Part a2 2 6), V (Zv R KR), Fw (ZN (D1 * R)) w, Fw (ZN ((rn * (dn * dn)) * (D1 * R))) w, .new (ygt), .put (.inr 17) (.box 29 ((ZN ((rn * (dn * dn)) * (D1 * R))) w.heap.size))] [.inr 0, .inr 1, .inr 2, .inr 3, .inl 17] [] S2 ?_ ?_
 ·exact ⟨⟨⟨⟨⟨⟨⟨⟨⟨⟨⟨jj8 (ptZ wA 1 ycu) (plA wA (oO 0 39) 1 rfl rfl yc6) (mS 0 6) (yb7 rfl wA rfl (oO 2 41) ye6 rfl) (ybg (d := 3) rfl wA rfl ((oO 3 42).imp ye7) (fun ρ w b k h => yen ρ _ _ w b k h) yp3 rfl) (alC wA ya9 yak (oO 4 43)) (mS 0 6) (yb7 rfl wA rfl (oO 6 45) ye6 rfl), ybg (d := 3) rfl wA rfl ((oO 7 46).imp ye7) (fun ρ w b k h => yen ρ _ _ w b k h) yp3 rfl⟩, alC wA ya9 yak (oO 8 47)⟩, cc2 wA (qO 5 44 rfl) (qO 9 48 rfl) (yai _) (fun w u v h1 h2 => yde (by omega) w u v ((fun _ _ h => h) _ _ h1) ((fun _ _ h => h) _ _ h2))⟩, cc2 wA (qO 1 40 rfl) (qO 10 49 rfl) (yai _) (fun w u v h1 h2 => yde (by omega) w u v ((fun _ _ h => h) _ _ h1) ((ya4 q1) _ _ h2))⟩, loA 4 wA yaa yak⟩, ptA wA 0 ydo⟩, plA wA (oO 13 52) 0 rfl rfl (ybf ya9 (k := 4) rfl (by decide) (by decide))⟩, cc2 wA (qO 12 51 rfl) (qO 14 53 rfl) (yai _) (fun w u v h1 h2 => yde (by omega) w u v ((fun _ _ h => h) _ _ h1) ((fun _ _ h => h) _ _ h2))⟩, cc2 wA (qO 11 50 rfl) (qO 15 54 rfl) (yai _) (fun w u v h1 h2 => yde (by omega) w u v ((ya4 q2) _ _ h1) ((ya4 q3) _ _ h2))⟩, nwA wA yal⟩, puA 17 wA (oO 16 55) yaa yao yah⟩
 intro _ a3 _ (S3 : Zt [_,_,_,_,_] [])
 refine wq [Fw (ZN ((rn * (dn * dn)) * (D1 * R))) w, V (Part a3 2 4), V (Zv N KN), V (Part a3 3 2), V (Zv rd Kr), Fw (ZN (N * rd)) w, Fw (ZN (lf)) w, .new (ygt), .put (.inr 7) (.box 29 ((ZN (lf)) w.heap.size))] [.inr 0, .inr 1, .inr 2, .inr 3, .inl 7] [] S3 ?_ ?_
 ·exact ⟨jj8 (loA 4 wA yaa yah) (ptA wA 0 yd7) (plA wA (oO 1 57) 0 rfl rfl (ybf ya9 (k := 3) rfl (by decide) (by decide))) (ptA wA 1 yby) (plA wA (oO 3 59) 1 rfl rfl yb1) (cc2 wA (qO 2 58 rfl) (qO 4 60 rfl) (yai _) (fun w u v h1 h2 => yde (by omega) w u v ((fun _ _ h => h) _ _ h1) ((fun _ _ h => h) _ _ h2))) (cc2 wA (qO 0 56 rfl) (qO 5 61 rfl) (yai _) (fun w u0 u1 h0 h1 => Gives.cast (ψ := (ZN (lf))) ((fun w u v h1 h2 => yo3 (by omega) (by omega) w u v ((ya4 q4) _ _ h1) ((ya4 q5) _ _ h2)) w u0 u1 h0 h1) (by rw [elf]))) (nwA wA yal), puA 7 wA (oO 6 62) yaa yao yah⟩
 intro _ a4 _ (S4 : Zt [_,_,_,_,_] [])
 rcases hl with ⟨hl, rfl⟩ | ⟨hl, hnz, eS, hs0, eρ, rfl⟩
 ·skip
  have hsg : lf.sign < 0 := by rw [zgk hl]; decide
  refine wp_seq ?_
  refine wq [Fw (ZN (lf)) w, V (iV ((lf).sign)), kT] ur5 [.inl 2] S4 ?_ ?_
  ·exact jj3 (loA 4 wA yaa yah) (cc1 wA (qO 0 63 rfl) (yaf _) (fun w u h1 => yge (by omega) w u ((ya4 q6) _ _ h1))) (ya7 wA (oO 1 64) (yab _) (h := hsg))
  intro B5 a5 W5 (S5 : Zt [_,_,_,_,_] [_])
  refine wp_cond_true (S5.bool 0 65 rfl) ?_
  refine wq [.val zI, .put (.inl 4) (ygt), kF] [.inr 0, .inr 2] [.inl 2] S5 ?_ ?_
  ·exact jj3 (ybd rfl wA rfl rfl) (seA 2 wA (oO 0 66) yaa yao yao) mC
  intro B6 a6 W6 (S6 : Zt [_,_] [_])
  refine wp_ret (thenR ?_)
  exact ydc S6 rfl (yau S6 1 4 rfl yaa yao) (yaw S6 0 5 rfl)
 ·skip
  have hsg : 0 ≤ lf.sign := ytr hl
  have q9 : (digs sq.natAbs).length ≤ 268435458 := by rw [← eS]; exact yhf hnz q7
  refine wp_seq ?_
  refine wq [Fw (ZN (lf)) w, V (iV ((lf).sign)), kF] ur5 [.inl 2] S4 ?_ ?_
  ·exact jj3 (loA 4 wA yaa yah) (cc1 wA (qO 0 63 rfl) (yaf _) (fun w u h1 => yge (by omega) w u ((ya4 q6) _ _ h1))) (ybl wA (oO 1 64) (yab _) (h := hsg))
  intro B5 a5 W5 (S5 : Zt [_,_,_,_,_] [_])
  refine wp_cond_false (S5.bool 0 65 rfl) (wp_skip (thenN ?_))
  refine wq [Fw (ZN (lf)) w, V (Zv D0 K), Fw (ZN (lf * D0)) w, V (Part a5 3 2), V (Zv rd Kr), V (Part a5 2 6), V (Zv R KR), Fw (ZN (rd * R)) w, Fw (THREE (ZN (sq)) (ZN (rm (lf * D0) (rd * R))) (IS (.int .i64 0))) w, Fw (THREE (ZN (sq)) (ZN (rm (lf * D0) (rd * R))) (IS (.int .i64 0))) w, Fw (ZN (sq)) w, Fw (ZN (rm (lf * D0) (rd * R))) w, V (iV 0), .new (ygt), .new (ygt), .put (.inr 13) (.box 29 ((ZN (sq)) w.heap.size)), .put (.inr 14) (.box 29 ((ZN (rm (lf * D0) (rd * R))) w.heap.size)), V (iV 0)] [.inr 0, .inr 2, .inl 13, .inl 14] [] S5 ?_ ?_
  ·exact ⟨⟨⟨⟨⟨⟨⟨⟨⟨⟨jj8 (loA 4 wA yaa yah) (loA 3 wA yaa yak) (cc2 wA (qO 0 68 rfl) (qO 1 69 rfl) (yai _) (fun w u v h1 h2 => yde (by omega) w u v ((ya4 q6) _ _ h1) ((fun _ _ h => h) _ _ h2))) (ptA wA 1 yby) (plA wA (oO 3 71) 1 rfl rfl yb1) (ptA wA 0 ydo) (plA wA (oO 5 73) 0 rfl rfl (ybf ya9 (k := 4) rfl (by decide) (by decide))) (cc2 wA (qO 4 72 rfl) (qO 6 74 rfl) (yai _) (fun w u v h1 h2 => yde (by omega) w u v ((fun _ _ h => h) _ _ h1) ((fun _ _ h => h) _ _ h2))), cc2 wA (qO 2 70 rfl) (qO 7 75 rfl) (yck (yai _) (yai _) (yaf _)) (fun w u v h1 h2 => Gives.cast (ψ := (THREE (ZN (sq)) (ZN (rm (lf * D0) (rd * R))) (IS (.int .i64 0)))) (ykj hnz (by omega) (by omega) w u v ((ya4 q7) _ _ h1) ((ya4 q8) _ _ h2)) (by rw [eS]))⟩, mO 8 76⟩, e30 wA (oO 9 67)⟩, e31 wA (oO 9 67)⟩, e32 wA (oO 9 67)⟩, nwA wA yal⟩, nwA wA yal⟩, puA 13 wA (oO 10 77) yaa yao yah⟩, puA 14 wA (oO 11 78) yaa yao yah⟩, mO 12 79⟩
  intro B6 a6 W6 (S6 : Zt [_,_,_,_] [])
  refine wq [Fw (ZN (sq)) w, Fw (TWO (ZN (ρ)) (IS (.int .i64 0))) w, Fw (TWO (ZN (ρ)) (IS (.int .i64 0))) w, Fw (ZN (ρ)) w, V (iV 0), .new (ygt), .put (.inr 5) (.box 29 ((ZN (ρ)) w.heap.size)), V (iV 0)] [.inr 0, .inr 1, .inl 5] [] S6 ?_ ?_
  ·repeat' refine And.intro ?_ ?_
   ·trivial
   ·exact loA 2 wA yaa yah
   ·exact cc1 wA (qO 0 81 rfl) (ybv (yai _) (yaf _)) (fun w u h1 => yu3 (by omega) hs0 eρ w u ((ya4 q9) _ _ h1))
   ·exact mO 1 82
   ·exact e20 wA (oO 2 80)
   ·exact e21 wA (oO 2 80)
   ·exact nwA wA yal
   ·exact puA 5 wA (oO 3 83) yaa yao yah
   ·exact mO 4 84
  intro _ a7 _ (S7 : Zt [_,_,_] [])
  refine wq [Fw (ZN (ρ)) w, .put (.inl 4) (.box 29 ((ZN (ρ)) w.heap.size)), kT] ur2 [.inl 2] S7 ?_ ?_
  ·exact jj3 (loA 2 wA yaa yah) (seA 1 wA (oO 0 85) yaa yao yah) mC
  intro _ a8 _ (S8 : Zt [_,_] [_])
  refine wp_ret ?_
  exact ydc S8 rfl (yau S8 1 4 rfl yaa yah) (yaw S8 0 5 rfl)
abbrev yjw  : Rk := .box 29 zI
theorem ze0 (w : World) (pa : Value) (nD nL nT K : Nat) (D : List Int) (L : List (List Int)) (τ : List Int) (dn : Int) (hD : nD ≤ 1048577) (hL : nL ≤ 1048576) (hT : nT ≤ 1048576) (hK : K ≤ 16777216) (lD : D.length = nD) (lL : L.length = nL) (lT : τ.length = nT) (u : Value) (k Ks KB KN KR : Nat) (sh : List Int) (b N R : Int) (h : Hs w (SP (AP pa nD nL nT K D L τ dn) (Vv k sh Ks) (Zv b KB) (Zv N KN) (Zv R KR)) u) (hk : k < nL) (ls : sh.length = k) (hnT : nT = nL) (hnD : nD = nL + 1) (r : Value) (rn rd T0 D1 cn cd : Int) (Kr : Nat) (hr : Hs w (PR (Zv rn Kr) (Zv rd Kr)) r) (hKB : KB ≤ 134217728) (eT : τ.getD (nL - 1 - k) 0 = T0) (eD : D.getD (nL - 1 - k + 1) 0 = D1) (ecn : T0 * D1 - b = cn) (ecd : dn * D1 = cd) (hre : ∀ (w : World) (u r : Value), Hs w (SP (AP pa nD nL nT K D L τ dn) (Vv k sh Ks) (Zv b KB) (Zv N KN) (Zv R KR)) u → Hs w (PR (Zv rn Kr) (Zv rd Kr)) r → CG 61 #[u, r] w (TWO (IS (.agg #[.bool false, .slice none 0 0])) (IS (.bool false)))) :
  CG 34 #[u, r] w (THREE (IS (.agg #[.bool false, .slice none 0 0])) (IS (.agg #[.bool false, .slice none 0 0])) (IS (.bool false))) := by
 refine yan (sl := [(0, (SP (AP pa nD nL nT K D L τ dn) (Vv k sh Ks) (Zv b KB) (Zv N KN) (Zv R KR))), (1, (PR (Zv rn Kr) (Zv rd Kr)))]) Tryz.func34 rfl Tryz.ntmps34 (by simp) (yad rfl (h) (yad rfl (hr) yar)) ?_
 intro a0 S0
 refine wq [.new (.box 52 (SP (AP pa nD nL nT K D L τ dn) (Vv k sh Ks) (Zv b KB) (Zv N KN) (Zv R KR))), .new (.box 31 (PR (Zv rn Kr) (Zv rd Kr))), .new (yjw), .new (yjw), kF] [.inl 0, .inl 1, .inl 2, .inl 3] [] S0 ?_ ?_
 ·exact jj5 (bxA wA (oS 0 0) (ydq ybz)) (bxA wA (oS 1 1) (ycn (ya2 yak yak))) (nwA wA yal) (nwA wA yal) mC
 intro _ a1 _ (S1 : Zt [_,_,_,_] [])
 refine wq [V (SP (AP pa nD nL nT K D L τ dn) (Vv k sh Ks) (Zv b KB) (Zv N KN) (Zv R KR)), V (PR (Zv rn Kr) (Zv rd Kr)), Fw (TWO (IS (.agg #[.bool false, .slice none 0 0])) (IS (.bool false))) w, Fw (TWO (IS (.agg #[.bool false, .slice none 0 0])) (IS (.bool false))) w, .val zI, kF, .new (yjw), .put (.inr 6) (yjw), kF] [.inr 0, .inr 2, .inr 3, .inl 6] [.inl 8] S1 ?_ ?_
 ·exact ⟨jj8 (loA 0 wA ya6 ybz) (loA 1 wA yaj (ya2 yak yak)) (ch2 wA (qO 0 18 rfl) (qO 1 19 rfl) (ybv (yaf _) (yaf _)) (fun w u r h1 h2 => hre w u r h1 h2)) (mO 2 20) (e20 wA (oO 3 17)) (e21 wA (oO 3 17)) (nwA wA yal) (puA 6 wA (oO 4 21) yaa yao yao), mO 5 22⟩
 intro _ a2 _ (S2 : Zt [_,_,_,_] [_])
 refine wp_seq ?_
 refine wq [kF, kT] ur4 [.inl 1] S2 ?_ ?_
 ·exact jj2 (mS 0 8) (ydb wA (oO 0 23))
 intro _ a3 _ (S3 : Zt [_,_,_,_] [_])
 refine wp_cond_true (S3.bool 0 24 rfl) ?_
 refine wq [.val zI, .val zI, .put (.inl 4) (yjw), .put (.inl 5) (yjw), kF] ur3 [.inl 4] S3 ?_ ?_
 ·exact jj5 (ybd rfl wA rfl rfl) (ybd rfl wA rfl rfl) (seA 1 wA (oO 0 25) yaa yao yao) (seA 2 wA (oO 1 26) yaa yao yao) mC
 intro _ a4 _ (S4 : Zt [_,_,_] [_])
 refine wp_ret (thenR ?_)
 exact yfb S4 rfl (yau S4 1 4 rfl yaa yao) (yau S4 2 5 rfl yaa yao) (yaw S4 0 6 rfl)
abbrev yf6  : Rk := .box 29 zI
theorem zdi (w : World) (pa : Value) (nD nL nT K : Nat) (D : List Int) (L : List (List Int)) (τ : List Int) (dn : Int) (hD : nD ≤ 1048577) (hL : nL ≤ 1048576) (hT : nT ≤ 1048576) (hK : K ≤ 16777216) (lD : D.length = nD) (lL : L.length = nL) (lT : τ.length = nT) (u : Value) (k Ks KB KN KR : Nat) (sh : List Int) (b N R : Int) (h : Hs w (SP (AP pa nD nL nT K D L τ dn) (Vv k sh Ks) (Zv b KB) (Zv N KN) (Zv R KR)) u) (hk : k < nL) (ls : sh.length = k) (hnT : nT = nL) (hnD : nD = nL + 1) (r : Value) (rn rd T0 D1 cn cd : Int) (Kr : Nat) (hr : Hs w (PR (Zv rn Kr) (Zv rd Kr)) r) (hKB : KB ≤ 134217728) (eT : τ.getD (nL - 1 - k) 0 = T0) (eD : D.getD (nL - 1 - k + 1) 0 = D1) (ecn : T0 * D1 - b = cn) (ecd : dn * D1 = cd) (ρ hi tn : Int) (hρ : (digs ρ.natAbs).length ≤ 268435458) (hcd : cd ≠ 0) (eH : fl (cn + ρ) cd = hi) (eL : fl (ρ - cn) cd = tn) (hre : ∀ (w : World) (u r : Value), Hs w (SP (AP pa nD nL nT K D L τ dn) (Vv k sh Ks) (Zv b KB) (Zv N KN) (Zv R KR)) u → Hs w (PR (Zv rn Kr) (Zv rd Kr)) r → CG 61 #[u, r] w (TWO (ZN (ρ)) (IS (.bool true)))) (psi : Nat → Pr) (hx : (hi < -tn ∧ psi = (THREE (IS (.agg #[.bool false, .slice none 0 0])) (IS (.agg #[.bool false, .slice none 0 0])) (IS (.bool false)))) ∨ (-tn ≤ hi ∧ psi = (THREE (ZN (-tn)) (ZN (hi)) (IS (.bool true))))) :
  CG 34 #[u, r] w psi := by
 obtain ⟨_, _, _, _, _, ha, _, hbv, _, _⟩ := yn8 h.now
 have hamd := yls ha
 have hpb := ydz hbv
 have hp1 : (digs D1.natAbs).length ≤ K := by rw [← eD]; exact ybq hamd.1 _
 have hpT : (digs T0.natAbs).length ≤ K := by rw [← eT]; exact ybq hamd.2.2.1 _
 have q1 : (digs (T0 * D1).natAbs).length ≤ 134217728 := by rw [zft]; exact ze6 (yam hpT hp1) (by omega)
 have q2 : (digs (cn).natAbs).length ≤ 134217729 := by rw [← ecn]; exact yds q1 (ze6 hpb hKB)
 have q3 : (digs (cd).natAbs).length ≤ 33554432 := by rw [← ecd]; rw [zft]; exact ze6 (yam hamd.2.2.2 hp1) (by omega)
 have q4 : (digs (cn + ρ).natAbs).length ≤ 268435459 := yf5 (ze6 q2 (by omega)) hρ
 have q5 : (digs (ρ - cn).natAbs).length ≤ 268435459 := yds hρ (ze6 q2 (by omega))
 have q6 : (digs (hi).natAbs).length ≤ 268435460 := by rw [← eH]; exact yhf hcd q4
 have q7 : (digs (tn).natAbs).length ≤ 268435460 := by rw [← eL]; exact yhf hcd q5
 have q8 : (digs (-tn).natAbs).length ≤ 268435460 := by rw [Int.natAbs_neg]; exact q7
 refine yan (sl := [(0, (SP (AP pa nD nL nT K D L τ dn) (Vv k sh Ks) (Zv b KB) (Zv N KN) (Zv R KR))), (1, (PR (Zv rn Kr) (Zv rd Kr)))]) Tryz.func34 rfl Tryz.ntmps34 (by simp) (yad rfl (h) (yad rfl (hr) yar)) ?_
 intro a0 S0
 refine wq [.new (.box 52 (SP (AP pa nD nL nT K D L τ dn) (Vv k sh Ks) (Zv b KB) (Zv N KN) (Zv R KR))), .new (.box 31 (PR (Zv rn Kr) (Zv rd Kr))), .new (yf6), .new (yf6), kF] [.inl 0, .inl 1, .inl 2, .inl 3] [] S0 ?_ ?_
 ·exact jj5 (bxA wA (oS 0 0) (ydq ybz)) (bxA wA (oS 1 1) (ycn (ya2 yak yak))) (nwA wA yal) (nwA wA yal) mC
 intro _ a1 _ (S1 : Zt [_,_,_,_] [])
 refine wq [V (SP (AP pa nD nL nT K D L τ dn) (Vv k sh Ks) (Zv b KB) (Zv N KN) (Zv R KR)), V (PR (Zv rn Kr) (Zv rd Kr)), Fw (TWO (ZN (ρ)) (IS (.bool true))) w, Fw (TWO (ZN (ρ)) (IS (.bool true))) w, Fw (ZN (ρ)) w, kT, .new (yf6), .put (.inr 6) (.box 29 ((ZN (ρ)) w.heap.size)), kT] [.inr 0, .inr 2, .inr 3, .inl 6] [.inl 8] S1 ?_ ?_
 ·exact ⟨jj8 (loA 0 wA ya6 ybz) (loA 1 wA yaj (ya2 yak yak)) (ch2 wA (qO 0 18 rfl) (qO 1 19 rfl) (ybv (yai _) (yaf _)) (fun w u r h1 h2 => hre w u r h1 h2)) (mO 2 20) (e20 wA (oO 3 17)) (e21 wA (oO 3 17)) (nwA wA yal) (puA 6 wA (oO 4 21) yaa yao yah), mO 5 22⟩
 intro _ a2 _ (S2 : Zt [_,_,_,_] [_])
 refine wp_seq ?_
 refine wq [kT, kF] ur4 [.inl 1] S2 ?_ ?_
 ·exact jj2 (mS 0 8) (ydb wA (oO 0 23))
 intro _ a3 _ (S3 : Zt [_,_,_,_] [_])
 refine wp_cond_false (S3.bool 0 24 rfl) (wp_skip (thenN ?_))
 refine wq [V (SP (AP pa nD nL nT K D L τ dn) (Vv k sh Ks) (Zv b KB) (Zv N KN) (Zv R KR)), Fw (PRF (ZN (cn)) (ZN (cd))) w, .new (.box 31 zR), .put (.inr 2) (.box 31 ((PRF (ZN (cn)) (ZN (cd))) w.heap.size))] [.inr 0, .inr 1, .inr 2, .inr 3, .inl 2] [] S3 ?_ ?_
 ·exact jj4 (loA 0 wA ya6 ybz) (ch1 wA (qO 0 27 rfl) (yff (yai _) (yai _)) (fun w u0 h0 => Gives.cast (zcy w pa nD nL nT K D L τ dn hD hL hT hK lD lL lT u0 _ _ _ _ _ _ _ _ _ h0 hk ls hnT hnD T0 D1 eT eD hKB) (by rw [ecn, ecd]))) (nwA wA ya5) (puA 2 wA (oO 1 28) yaj ybk (ya2 yah yah))
 intro _ a4 _ (S4 : Zt [_,_,_,_,_] [])
 refine wq [V (Part a4 9 0), Fw (ZN (cn)) w, Fw (ZN (ρ)) w, Fw (ZN (cn + ρ)) w, V (Part a4 9 2), Fw (ZN (cd)) w, Fw (THREE (ZN (hi)) (ZN (rm (cn + ρ) cd)) (IS (.int .i64 0))) w, Fw (THREE (ZN (hi)) (ZN (rm (cn + ρ) cd)) (IS (.int .i64 0))) w, Fw (ZN (hi)) w, Fw (ZN (rm (cn + ρ) cd)) w, V (iV 0), .new (yf6), .new (yf6), .put (.inr 11) (.box 29 ((ZN (hi)) w.heap.size)), .put (.inr 12) (.box 29 ((ZN (rm (cn + ρ) cd)) w.heap.size)), V (iV 0)] [.inr 0, .inr 1, .inr 2, .inr 3, .inr 4, .inl 11, .inl 12] [] S4 ?_ ?_
 ·exact ⟨⟨⟨⟨⟨⟨⟨⟨jj8 (ptZ wA 4 ycu) (plA wA (oO 0 30) 4 rfl rfl yc6) (loA 3 wA yaa yah) (cc2 wA (qO 1 31 rfl) (qO 2 32 rfl) (yai _) (fun w u v h1 h2 => yr0 (by omega) (by omega) w u v ((ya4 q2) _ _ h1) ((ya4 hρ) _ _ h2))) (ptA wA 4 yby) (plA wA (oO 4 34) 4 rfl rfl yb1) (cc2 wA (qO 3 33 rfl) (qO 5 35 rfl) (yck (yai _) (yai _) (yaf _)) (fun w u v h1 h2 => Gives.cast (ψ := (THREE (ZN (hi)) (ZN (rm (cn + ρ) cd)) (IS (.int .i64 0)))) (ykj hcd (by omega) (by omega) w u v ((ya4 q4) _ _ h1) ((ya4 q3) _ _ h2)) (by rw [eH]))) (mO 6 36), e30 wA (oO 7 29)⟩, e31 wA (oO 7 29)⟩, e32 wA (oO 7 29)⟩, nwA wA yal⟩, nwA wA yal⟩, puA 11 wA (oO 8 37) yaa yao yah⟩, puA 12 wA (oO 9 38) yaa yao yah⟩, mO 10 39⟩
 intro _ a5 _ (S5 : Zt [_,_,_,_,_,_,_] [])
 refine wq [Fw (ZN (ρ)) w, V (Part a5 9 0), Fw (ZN (cn)) w, Fw (ZN (ρ - cn)) w, V (Part a5 9 2), Fw (ZN (cd)) w, Fw (THREE (ZN (tn)) (ZN (rm (ρ - cn) cd)) (IS (.int .i64 0))) w, Fw (THREE (ZN (tn)) (ZN (rm (ρ - cn) cd)) (IS (.int .i64 0))) w, Fw (ZN (tn)) w, Fw (ZN (rm (ρ - cn) cd)) w, V (iV 0), .new (yf6), .new (yf6), .put (.inr 11) (.box 29 ((ZN (tn)) w.heap.size)), .put (.inr 12) (.box 29 ((ZN (rm (ρ - cn) cd)) w.heap.size)), V (iV 0)] [.inr 0, .inr 1, .inr 2, .inr 5, .inl 11, .inl 12] [] S5 ?_ ?_
 ·exact ⟨⟨⟨⟨⟨⟨⟨⟨jj8 (loA 3 wA yaa yah) (ptZ wA 4 ycu) (plA wA (oO 1 42) 4 rfl rfl yc6) (cc2 wA (qO 0 41 rfl) (qO 2 43 rfl) (yai _) (fun w u v h1 h2 => yo3 (by omega) (by omega) w u v ((ya4 hρ) _ _ h1) ((ya4 q2) _ _ h2))) (ptA wA 4 yby) (plA wA (oO 4 45) 4 rfl rfl yb1) (cc2 wA (qO 3 44 rfl) (qO 5 46 rfl) (yck (yai _) (yai _) (yaf _)) (fun w u v h1 h2 => Gives.cast (ψ := (THREE (ZN (tn)) (ZN (rm (ρ - cn) cd)) (IS (.int .i64 0)))) (ykj hcd (by omega) (by omega) w u v ((ya4 q5) _ _ h1) ((ya4 q3) _ _ h2)) (by rw [eL]))) (mO 6 47), e30 wA (oO 7 40)⟩, e31 wA (oO 7 40)⟩, e32 wA (oO 7 40)⟩, nwA wA yal⟩, nwA wA yal⟩, puA 11 wA (oO 8 48) yaa yao yah⟩, puA 12 wA (oO 9 49) yaa yao yah⟩, mO 10 50⟩
 intro _ a6 _ (S6 : Zt [_,_,_,_,_,_] [])
 refine wq [Fw (ZN (tn)) w, Fw (ZN (-tn)) w, .new (yf6), .put (.inr 2) (.box 29 ((ZN (-tn)) w.heap.size))] [.inr 0, .inr 1, .inr 2, .inr 3, .inl 2] [] S6 ?_ ?_
 ·exact jj4 (loA 4 wA yaa yah) (cc1 wA (qO 0 51 rfl) (yai _) (fun w u h1 => zbd (by omega) w u ((ya4 q7) _ _ h1))) (nwA wA yal) (puA 2 wA (oO 1 52) yaa yao yah)
 intro _ a7 _ (S7 : Zt [_,_,_,_,_] [])
 rcases hx with ⟨hx, rfl⟩ | ⟨hx, rfl⟩
 ·skip
  have hsg : 0 < (-tn - hi).sign := by rw [zf9 (by omega)]; decide
  refine wp_seq ?_
  refine wq [Fw (ZN (-tn)) w, Fw (ZN (hi)) w, V (iV (((-tn) - hi).sign)), kT] ur5 [.inl 3] S7 ?_ ?_
  ·exact jj4 (loA 4 wA yaa yah) (loA 3 wA yaa yah) (cc2 wA (qO 0 53 rfl) (qO 1 54 rfl) (yaf _) (fun w u v h1 h2 => yo5 (by omega) (by omega) w u v ((ya4 q8) _ _ h1) ((ya4 q6) _ _ h2))) (ycy wA (oO 2 55) (yab _) (h := hsg))
  intro B8 a8 W8 (S8 : Zt [_,_,_,_,_] [_])
  refine wp_cond_true (S8.bool 0 56 rfl) ?_
  refine wq [.val zI, .val zI, .put (.inl 4) (yf6), .put (.inl 5) (yf6), kF] ur3 [.inl 4] S8 ?_ ?_
  ·exact jj5 (ybd rfl wA rfl rfl) (ybd rfl wA rfl rfl) (seA 1 wA (oO 0 57) yaa yao yao) (seA 2 wA (oO 1 58) yaa yao yao) mC
  intro B9 a9 W9 (S9 : Zt [_,_,_] [_])
  refine wp_ret (thenR ?_)
  exact yfb S9 rfl (yau S9 1 4 rfl yaa yao) (yau S9 2 5 rfl yaa yao) (yaw S9 0 6 rfl)
 ·skip
  have hsg : (-tn - hi).sign ≤ 0 := yd1 (by omega)
  refine wp_seq ?_
  refine wq [Fw (ZN (-tn)) w, Fw (ZN (hi)) w, V (iV (((-tn) - hi).sign)), kF] ur5 [.inl 3] S7 ?_ ?_
  ·exact jj4 (loA 4 wA yaa yah) (loA 3 wA yaa yah) (cc2 wA (qO 0 53 rfl) (qO 1 54 rfl) (yaf _) (fun w u v h1 h2 => yo5 (by omega) (by omega) w u v ((ya4 q8) _ _ h1) ((ya4 q6) _ _ h2))) (ycr wA (oO 2 55) (yab _) (h := hsg))
  intro B8 a8 W8 (S8 : Zt [_,_,_,_,_] [_])
  refine wp_cond_false (S8.bool 0 56 rfl) (wp_skip (thenN ?_))
  refine wq [Fw (ZN (-tn)) w, Fw (ZN (hi)) w, .put (.inl 4) (.box 29 ((ZN (-tn)) w.heap.size)), .put (.inl 5) (.box 29 ((ZN (hi)) w.heap.size)), kT] ur3 [.inl 4] S8 ?_ ?_
  ·exact jj5 (loA 4 wA yaa yah) (loA 3 wA yaa yah) (seA 1 wA (oO 0 59) yaa yao yah) (seA 2 wA (oO 1 60) yaa yao yah) mC
  intro B9 a9 W9 (S9 : Zt [_,_,_] [_])
  refine wp_ret ?_
  exact yfb S9 rfl (yau S9 1 4 rfl yaa yah) (yau S9 2 5 rfl yaa yah) (yaw S9 0 6 rfl)
def FOUR (φ ψ χ θ : Nat → Pr) : Nat → Pr := fun lo v w => ∃ x y z t, v = .tuple #[x, y, z, t] ∧ φ lo x w ∧ ψ lo y w ∧ χ lo z w ∧ θ lo t w
theorem yjd {φ ψ χ θ : Nat → Pr} (h : Fresh φ) (h' : Fresh ψ) (h'' : Fresh χ) (h3 : Fresh θ) : Fresh (FOUR φ ψ χ θ) :=
 ⟨fun lo lo' v w hl ⟨x, y, z, t, e, a, b, c, d⟩ => ⟨x, y, z, t, e, h.mono _ _ _ _ hl a, h'.mono _ _ _ _ hl b, h''.mono _ _ _ _ hl c, h3.mono _ _ _ _ hl d⟩, fun lo v w w' B hB ⟨x, y, z, t, e, a, b, c, d⟩ ev => ⟨x, y, z, t, e, h.ev _ _ _ _ B hB a ev, h'.ev _ _ _ _ B hB b ev, h''.ev _ _ _ _ B hB c ev, h3.ev _ _ _ _ B hB d ev⟩⟩
theorem ymp {P : Program} {fn : Func} {tmps : Array Value} {W : World} {r r' r'' r3 : ResultVar} {v v' v'' v3 : Value} (hr : fn.results = #[r, r', r'', r3]) (h : (resOf r tmps).run P W = .ok v W) (h' : (resOf r' tmps).run P W = .ok v' W) (h'' : (resOf r'' tmps).run P W = .ok v'' W) (h3 : (resOf r3 tmps).run P W = .ok v3 W) : (results fn tmps).run P W = .ok (.tuple #[v, v', v'', v3]) W := by
 rw [yf2, hr]
 simp [Sem.run_bind, h, h', h'', h3]
theorem ykf {w0 W : World} {n : Nat} {bx : Bxs} {sl : List (Tmp × Pr)} {B : Nat → Prop} {a : Act} {fn : Func} {r r' r'' r3 : ResultVar} {φ ψ χ θ : Nat → Pr} (S : Sta w0 n bx sl B a W) (hr : fn.results = #[r, r', r'', r3]) (h : ∃ v, (resOf r a.tmps).run Tryz.prog W = .ok v W ∧ φ w0.heap.size v W) (h' : ∃ v, (resOf r' a.tmps).run Tryz.prog W = .ok v W ∧ ψ w0.heap.size v W) (h'' : ∃ v, (resOf r'' a.tmps).run Tryz.prog W = .ok v W ∧ χ w0.heap.size v W) (h3 : ∃ v, (resOf r3 a.tmps).run Tryz.prog W = .ok v W ∧ θ w0.heap.size v W) : bodyPost Tryz.prog fn (Gives (FOUR φ ψ χ θ) w0) .ret a W := by
 obtain ⟨v, h1, h2⟩ := h
 obtain ⟨v', h1', h2'⟩ := h'
 obtain ⟨v'', h1'', h2''⟩ := h''
 obtain ⟨v3, h13, h23⟩ := h3
 exact bodyPost_ret (ymp hr h1 h1' h1'' h13) S.dfr ⟨_, rfl, S.ent, v, v', v'', v3, rfl, h2, h2', h2'', h23⟩
section
variable {ops : Array Oper} {l : List Kd} {bx : Bxs} {sl : List (Tmp × Pr)} {i : Nat} {o : Oper} {Q : Exit → Act → World → Prop} {a0 : Act} {n : Nat} {w0 : World}
theorem yee {φ ψ χ ξ : Nat → Pr} {θ : Pr} {x : Operand} {k lo : Nat} (ho : ops[i]? = some o) (hw : Wants ops l bx sl i o) (hop : o.op = .extract x k) (h : Opnd ops l bx sl i x (FOUR φ ψ χ ξ lo)) (hχ : (k = 0 ∧ θ = φ lo) ∨ (k = 1 ∧ θ = ψ lo) ∨ (k = 2 ∧ θ = χ lo) ∨ (k = 3 ∧ θ = ξ lo)) (hk : kdAt l i = .val θ) : Owed Tryz.prog ops Q l bx sl a0 n w0 i :=
 ycq ho hw hk fun vs B a w c => by
  have hx := h a0 n w0 vs B a w c
  obtain ⟨y, z, u, t, e, _, _, _, _⟩ := hx.now
  rcases hχ with ⟨rfl, rfl⟩ | ⟨rfl, rfl⟩ | ⟨rfl, rfl⟩ | ⟨rfl, rfl⟩
  ·refine ⟨y, ?_, fun w' e' => ?_⟩
   ·unfold execOp
    rw [hop]
    generalize a.eval = ρ at e
    go_simp
   ·obtain ⟨y', z', u', t', e1, h1, _, _, _⟩ := hx w' e'
    rw [e] at e1
    simp at e1
    rw [e1.1]; exact h1
  ·refine ⟨z, ?_, fun w' e' => ?_⟩
   ·unfold execOp
    rw [hop]
    generalize a.eval = ρ at e
    go_simp
   ·obtain ⟨y', z', u', t', e1, _, h1, _, _⟩ := hx w' e'
    rw [e] at e1
    simp at e1
    rw [e1.2.1]; exact h1
  ·refine ⟨u, ?_, fun w' e' => ?_⟩
   ·unfold execOp
    rw [hop]
    generalize a.eval = ρ at e
    go_simp
   ·obtain ⟨y', z', u', t', e1, _, _, h1, _⟩ := hx w' e'
    rw [e] at e1
    simp at e1
    rw [e1.2.2.1]; exact h1
  ·refine ⟨t, ?_, fun w' e' => ?_⟩
   ·unfold execOp
    rw [hop]
    generalize a.eval = ρ at e
    go_simp
   ·obtain ⟨y', z', u', t', e1, _, _, _, h1⟩ := hx w' e'
    rw [e] at e1
    simp at e1
    rw [e1.2.2.2]; exact h1
end
theorem yuy {B1 B2 : Nat → Prop} {w w2 : World} (e : Ev (fun k => B1 k ∨ B2 k) w w2) : ∃ w1, Ev B1 w w1 ∧ Ev B2 w1 w2 := by
 classical
 refine ⟨{ w2 with heap := w2.heap.mapIdx (fun k o => if B2 k then (w.heap[k]?).getD o else o) }, ⟨e.os, e.tape, e.output, by simp; exact e.size, fun k hk hn => ?_⟩, ⟨rfl, rfl, rfl, by simp, fun k hk hn => ?_⟩⟩
 ·have hk2 : k < w2.heap.size := zfd hk e.size
  simp only [Array.getElem?_mapIdx]
  rw [zfz hk2]
  by_cases hb : B2 k
  ·rw [zif, if_pos hb, zfz hk]
   rfl
  ·rw [zif, if_neg hb]
   have := e.block k hk (fun h => h.elim hn hb)
   rw [← this, zfz hk2]
 ·have hk2 : k < w2.heap.size := by simpa using hk
  simp only [Array.getElem?_mapIdx]
  rw [zfz hk2, zif, if_neg hn]
def LFW (E sz n : Nat) (ψs : List (Nat → Pr)) : Nat → Pr := fun lo v w => ∃ ys, w.ownsRow lo E sz v n ys ∧ ∀ w1, Ev (fun k => vblock v = some k) w w1 → CE sz (ψs.map (· lo)) ys w1
theorem yqo {w : World} {lo lo' e size n : Nat} {v : Value} {xs : List Value} (hl : lo' ≤ lo) (h : w.ownsRow lo e size v n xs) : w.ownsRow lo' e size v n xs := by
 refine ⟨h.1, ?_⟩
 rcases h.2 with h1 | ⟨g, cap, cur, h1, hg0, h2⟩
 ·exact Or.inl h1
 ·exact Or.inr ⟨g, cap, cur, h1, ze6 hl hg0, h2⟩
theorem yvh {B : Nat → Prop} {w w' : World} {lo e size n : Nat} {v : Value} {xs : List Value} (h : w.ownsRow lo e size v n xs) (hB : ∀ k, vblock v = some k → ¬ B k) (ev : Ev B w w') : w'.ownsRow lo e size v n xs := by
 refine ⟨h.1, ?_⟩
 rcases h.2 with h1 | ⟨g, cap, cur, rfl, hg0, hg, h2⟩
 ·exact Or.inl h1
 ·exact Or.inr ⟨g, cap, cur, rfl, hg0, (ev.block g (zfi.1 hg).1 (hB g rfl)).trans hg, h2⟩
theorem yvi {w : World} {lo e size n k : Nat} {v : Value} {xs : List Value} (h : w.ownsRow lo e size v n xs) (hk : vblock v = some k) : lo ≤ k ∧ k < w.heap.size := by
 rcases h.2 with ⟨rfl, _⟩ | ⟨g, cap, cur, rfl, hg0, hg, h2⟩
 ·cases hk
 ·cases hk
  exact ⟨hg0, (zfi.1 hg).1⟩
theorem zah {sz lo lo' : Nat} {ψs : List (Nat → Pr)} {ys : List Value} {w w' : World} (h : ∀ (i : Nat) ψ, ψs[i]? = some ψ → ∀ v, ψ lo v w → ψ lo' v w') (hc : CE sz (ψs.map (· lo)) ys w) : CE sz (ψs.map (· lo')) ys w' := by
 obtain ⟨us, e, l, c, a⟩ := hc
 refine ⟨us, e, by simpa using l, c, fun i u φ hu hφ => ?_⟩
 obtain ⟨ψ, hψ, rfl⟩ := ya3 hφ
 exact h i ψ hψ u (a i u (ψ lo) hu (by rw [zfg, hψ]; rfl))
theorem Sta.freezeW {w0 W : World} {n : Nat} {bx bx' : Bxs} {sl : List (Tmp × Pr)} {B : Nat → Prop} {a : Act} (S : Sta w0 n bx sl B a W) (k : Nat) {t e size n' : Nat} {ψs : List (Nat → Pr)} (h : bx[k]? = some (t, .row e size n' (CE size (ψs.map (· w0.heap.size))))) (hs : ∀ x ∈ bx', x ∈ bx ∧ x.1 ≠ t) :
  Sta w0 n bx' ((t, LFW e size n' ψs w0.heap.size) :: sl) (fun j => B j ∧ vblock (a.eval (.tmp t)) ≠ some j) a W := by
 have S2 := S.freeze (bx' := bx') k h hs (φ := fun _ _ => True) (fun _ _ _ _ _ => trivial)
 have hm := zfc h
 obtain ⟨xs, hown, hB, hχ⟩ := S.box _ hm
 refine ⟨S2.ent, S2.bnd, S2.siz, S2.dfr, S2.box, S2.sep, fun x hx => ?_⟩
 rcases zgy.1 hx with rfl | hx
 ·intro w' ew
  refine ⟨xs, yvh hown (fun k hk hb => hb.2 hk) ew, fun w1 e1 => hχ w1 ?_⟩
  refine Ev.back (ew.mono (fun k hk => hk.1)) (fun k _ hk => ?_) e1
  exact hB k hk
 ·exact S2.slt x (List.mem_cons_of_mem _ hx)
section
variable {ops : Array Oper} {l : List Kd} {bx : Bxs} {sl : List (Tmp × Pr)} {i : Nat} {o : Oper} {Q : Exit → Act → World → Prop} {a0 : Act} {n0 : Nat} {w0 : World}
theorem yst {f : FuncId} {x : Operand} {ts : Array TypeId} {φ : Pr} {E sz n : Nat} {ψs : List (Nat → Pr)} (ho : ops[i]? = some o) (hw : Wants ops l bx sl i o) (hop : o.op = .call { callee := .value (.func f), args := #[x], argTypes := ts }) (hx : Opnd ops l bx sl i x φ) (hF : ∀ (i : Nat) ψ, ψs[i]? = some ψ → Fresh ψ) (hk : kdAt l i = .new (.row E sz n (CE sz (ψs.map (· w0.heap.size)))))
  (hcf : ∀ args w, (callFunc f args).run Tryz.prog w = .ok (.enter f args) w) (C : ∀ w u, Hs w φ u → CG f #[u] w (LFW E sz n ψs)) : Owed Tryz.prog ops Q l bx sl a0 n0 w0 i := fun vs B a w c o' ho' => by
 obtain rfl : o = o' := Option.some.inj (ho.symm.trans ho')
 have h1 := hx a0 n0 w0 vs B a w c
 have hr : (execOp a.eval o).run Tryz.prog w = .ok (.enter f #[a.eval x]) w := by
  unfold execOp
  rw [hop]
  have hf : a.eval (.func f) = .func (.func f) #[] #[] := rfl
  generalize a.eval = ρ at hf
  go_simp
 simp only [wpOp, ho]
 rw [if_pos (hw a0 n0 w0 vs B a w c)]
 refine Or.inl ?_
 unfold Oper.wp
 rw [hr, Oper.upon_enter]
 refine (C w _ h1.hs).mono ?_
 rintro e w' ⟨r, rfl, hb, ys, hown, hce⟩
 refine ⟨r, rfl, ?_⟩
 rw [hk]
 refine ⟨hb, fun b hb' => yvi hown hb', ys, yqo c.lo hown, fun b hb' => Or.inr hb', fun w'' e'' => ?_⟩
 have e2 : Ev (fun k => vblock r = some k ∨ B k) w' w'' := e''.mono (fun k hk => hk.symm)
 obtain ⟨y, e3, e4⟩ := yuy e2
 exact zah (fun i ψ hψ v hv => (hF i ψ hψ).mono _ _ _ _ c.lo ((hF i ψ hψ).ev _ _ _ _ B (fun k hk => (c.bnd k hk).2) hv e4)) (hce y e3)
end
end Go.Proofs.YtbkobojhkhiohaaGreat
