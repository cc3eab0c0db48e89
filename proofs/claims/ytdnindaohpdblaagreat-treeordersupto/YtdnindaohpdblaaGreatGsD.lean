import Derived.Test.YtdnindaohpdblaaGreatGsB
import Derived.Test.YtdnindaohpdblaaGreatRsK
set_option linter.all false
namespace Go.Proofs.YtdnindaohpdblaaGreat
open Go Go.RowKit Nt
set_option maxRecDepth 20000
set_option maxHeartbeats 16000000
structure Good (D : List Int) (L : List (List Int)) : Prop where
 some : L.length ≠ 0
 len : D.length = L.length + 1
 one : D.getD 0 0 = 1
 row : ∀ i, i < L.length → (L.getD i []).length = i
 pos : ∀ i, i < L.length → 0 < D.getD (i + 1) 0
inductive Bad (D : List Int) (L : List (List Int)) : Prop
 | none : L.length = 0 → Bad D L
 | len : L.length ≠ 0 → D.length ≠ L.length + 1 → Bad D L
 | one : L.length ≠ 0 → D.length = L.length + 1 → D.getD 0 0 ≠ 1 → Bad D L
 | row (i0 : Nat) : L.length ≠ 0 → D.length = L.length + 1 → D.getD 0 0 = 1 → i0 < L.length → (∀ j, j < i0 → (L.getD j []).length = j ∧ 0 < D.getD (j + 1) 0) → ((L.getD i0 []).length ≠ i0 ∨ ((L.getD i0 []).length = i0 ∧ D.getD (i0 + 1) 0 ≤ 0)) → Bad D L
theorem yq6 {D : List Int} {L : List (List Int)} {b : Bool} (g : (Good D L ∧ b = true) ∨ (Bad D L ∧ b = false)) : (L.length = 0 ∧ b = false) ∨ (L.length ≠ 0 ∧ D.length ≠ L.length + 1 ∧ b = false) ∨ (L.length ≠ 0 ∧ D.length = L.length + 1 ∧ D.getD 0 0 ≠ 1 ∧ b = false) ∨ ∃ i0, L.length ≠ 0 ∧ D.length = L.length + 1 ∧ D.getD 0 0 = 1 ∧ i0 ≤ L.length ∧ (∀ j, j < i0 → (L.getD j []).length = j ∧ 0 < D.getD (j + 1) 0) ∧ ((i0 = L.length ∧ b = true) ∨ (i0 < L.length ∧ b = false ∧ ((L.getD i0 []).length ≠ i0 ∨ ((L.getD i0 []).length = i0 ∧ D.getD (i0 + 1) 0 ≤ 0)))) := by
 rcases g with ⟨g, hb⟩ | ⟨g, hb⟩
 ·exact Or.inr (Or.inr (Or.inr ⟨L.length, g.some, g.len, g.one, zde _, fun j hj => ⟨g.row j hj, g.pos j hj⟩, Or.inl ⟨rfl, hb⟩⟩))
 ·rcases g with g1 | ⟨g1, g2⟩ | ⟨g1, g2, g3⟩ | ⟨i0, g1, g2, g3, g4, g5, g6⟩
  ·exact Or.inl ⟨g1, hb⟩
  ·exact Or.inr (Or.inl ⟨g1, g2, hb⟩)
  ·exact Or.inr (Or.inr (Or.inl ⟨g1, g2, g3, hb⟩))
  ·exact Or.inr (Or.inr (Or.inr ⟨i0, g1, g2, g3, by omega, g5, Or.inr ⟨g4, hb, g6⟩⟩))
theorem ysl {z : Int} (h : 0 < z) : z.sign = 1 := zd9 h
theorem ykw {z : Int} (h : z ≤ 0) : z.sign ≤ 0 := by
 rcases Int.lt_or_le z 0 with h1 | h1
 ·rw [zd8 h1]; decide
 ·rw [show z = 0 by omega]; decide
theorem sgn0 {z : Int} (h : z = 0) : z.sign = 0 := by rw [h]; rfl
theorem zbg {z : Int} (h : z ≠ 0) : z.sign ≠ 0 := fun e => h (zf7.1 e)
abbrev yf7 (K : Nat) (L : List (List Int)) (k0 : Nat) : Pr := Vv ((L.getD k0 []).length) (L.getD k0 []) K
theorem zcp (w : World) (u : Value) (nD nL K : Nat) (D : List Int) (L : List (List Int)) (h : Hs w (SF [Vv nD D K, Mv nL L K]) u) (hD : nD ≤ 1048576) (hL : nL ≤ 1048576) (hK : K ≤ 1048576) (lD : D.length = nD) (lL : L.length = nL) (b : Bool) (g : (Good D L ∧ b = true) ∨ (Bad D L ∧ b = false)) :
  CG 77 #[u] w (IS (.bool b)) := by
 refine yap (sl := [(0, (SF [(Vv nD D K), (Mv nL L K)]))]) Tryz.func77 rfl Tryz.ntmps77 (by simp) (yai rfl (h) yat) ?_
 intro a0 S0
 refine wq [.new (.box 38 (SF [(Vv nD D K), (Mv nL L K)])), kF] [.inl 0] [] S0 ?_ ?_
 ·exact jj2 (bxA wA (oS 0 0) (yjs yfm)) mC
 intro _ a1 _ (S1 : Zt [_] [])
 rcases yq6 g with ⟨g1, rfl⟩ | ⟨g1, g2, rfl⟩ | ⟨g1, g2, g3, rfl⟩ | ⟨i0, g1, g2, g3, g4, g5, g6⟩
 ·skip
  refine wp_seq ?_
  refine wq [V (Part a1 1 1), V (Mv nL L K), V (iV (nL : Nat)), kT, kT, .off, .off, .off, .off, .off, .off, .off, .off, kT, kT, .off, .off, .off, .off, .off, .off, .off, kT] [.inr 0] [.inl 22] S1 ?_ ?_
  ·exact ⟨⟨⟨⟨⟨⟨⟨⟨⟨⟨⟨⟨⟨⟨⟨jj8 (ptA wA 0 yb0) (plA wA (oO 0 5) 0 rfl rfl (ploadS rfl ycm)) (lnA wA (oO 1 6) Tryz.underlying36) (ybt wA (oO 2 7) (yac _)) (mO 3 8) (oF 4 9) (oF 4 9) (oF 4 9), oF 4 9⟩, oF 4 9⟩, oF 4 9⟩, oF 4 9⟩, oF 4 9⟩, pT wA (oO 4 9) (yac _)⟩, mO 13 18⟩, oF 14 19⟩, oF 14 19⟩, oF 14 19⟩, oF 14 19⟩, oF 14 19⟩, oF 14 19⟩, oF 14 19⟩, pT wA (oO 14 19) (yac _)⟩
  intro B2 a2 W2 (S2 : Zt [_] [_])
  refine wp_cond_true (S2.bool 0 27 rfl) ?_
  refine wq [kF] [.inr 0] [.inl 0] S2 ?_ ?_
  ·exact jj1 mC
  intro B3 a3 W3 (S3 : Zt [_] [_])
  refine wp_ret (thenR ?_)
  exact ya3 S3 rfl (ya7 S3 0 2 rfl)
 ·skip
  refine wp_seq ?_
  refine wq [V (Part a1 1 1), V (Mv nL L K), V (iV (nL : Nat)), kF, kF, V (Part a1 1 0), V (Vv nD D K), V (iV (nD : Nat)), V (Part a1 1 1), V (Mv nL L K), V (iV (nL : Nat)), V (iV ((nL + 1 : Nat) : Int)), kT, kT, kT, .off, .off, .off, .off, .off, .off, .off, kT] [.inr 0] [.inl 22] S1 ?_ ?_
  ·exact ⟨⟨⟨⟨⟨⟨⟨⟨⟨⟨⟨⟨⟨⟨⟨jj8 (ptA wA 0 yb0) (plA wA (oO 0 5) 0 rfl rfl (ploadS rfl ycm)) (lnA wA (oO 1 6) Tryz.underlying36) (yci wA (oO 2 7) (yac _)) (mO 3 8) (ptZ (wI 4 9) 0 ydd) (plA (wI 4 9) (oO 5 10) 0 rfl rfl (ploadS rfl ydq)) (lnA (wI 4 9) (oO 6 11) Tryz.underlying35), ptA (wI 4 9) 0 yb0⟩, plA (wI 4 9) (oO 8 13) 0 rfl rfl (ploadS rfl ycm)⟩, lnA (wI 4 9) (oO 9 14) Tryz.underlying36⟩, ybc (wI 4 9) (oO 10 15) (yac _)⟩, yeg (wI 4 9) (oO 7 12) (oO 11 16)⟩, pF wA (oO 4 9) (oO 12 17)⟩, mO 13 18⟩, oF 14 19⟩, oF 14 19⟩, oF 14 19⟩, oF 14 19⟩, oF 14 19⟩, oF 14 19⟩, oF 14 19⟩, pT wA (oO 14 19) (yac _)⟩
  intro B2 a2 W2 (S2 : Zt [_] [_])
  refine wp_cond_true (S2.bool 0 27 rfl) ?_
  refine wq [kF] [.inr 0] [.inl 0] S2 ?_ ?_
  ·exact jj1 mC
  intro B3 a3 W3 (S3 : Zt [_] [_])
  refine wp_ret (thenR ?_)
  exact ya3 S3 rfl (ya7 S3 0 2 rfl)
 ·skip
  have hone : ((D.getD 0 0) - (1)).sign ≠ 0 := zbg (by omega)
  refine wp_seq ?_
  refine wq [V (Part a1 1 1), V (Mv nL L K), V (iV (nL : Nat)), kF, kF, V (Part a1 1 0), V (Vv nD D K), V (iV (nD : Nat)), V (Part a1 1 1), V (Mv nL L K), V (iV (nL : Nat)), V (iV ((nL + 1 : Nat) : Int)), kF, kF, kF, V (Part a1 1 0), V (Vv nD D K), V (AtE 2 (Zv (D.getD 0 0) K)), V (Zv (D.getD 0 0) K), Fw (ZN (1)) w, V (iV (((D.getD 0 0) - 1).sign)), kT, kT] [.inr 0] [.inl 22] S1 ?_ ?_
  ·exact ⟨⟨⟨⟨⟨⟨⟨⟨⟨⟨⟨⟨⟨⟨⟨jj8 (ptA wA 0 yb0) (plA wA (oO 0 5) 0 rfl rfl (ploadS rfl ycm)) (lnA wA (oO 1 6) Tryz.underlying36) (yci wA (oO 2 7) (yac _)) (mO 3 8) (ptZ (wI 4 9) 0 ydd) (plA (wI 4 9) (oO 5 10) 0 rfl rfl (ploadS rfl ydq)) (lnA (wI 4 9) (oO 6 11) Tryz.underlying35), ptA (wI 4 9) 0 yb0⟩, plA (wI 4 9) (oO 8 13) 0 rfl rfl (ploadS rfl ycm)⟩, lnA (wI 4 9) (oO 9 14) Tryz.underlying36⟩, ybc (wI 4 9) (oO 10 15) (yac _)⟩, yc0 (wI 4 9) (oO 7 12) (oO 11 16)⟩, pF wA (oO 4 9) (oO 12 17)⟩, mO 13 18⟩, ptZ (wI 14 19) 0 ydd⟩, plA (wI 14 19) (oO 15 20) 0 rfl rfl (ploadS rfl ydq)⟩, axA (wI 14 19) yb2 (oO 16 21) (yac _) (ygi (k := 0) (by omega)) rfl⟩, alC (wI 14 19) ya5 yaj (oO 17 22)⟩, cc1 (wI 14 19) (yac _) (yaf _) (yio (1) (by omega) (by omega))⟩, cc2 (wI 14 19) (qO 18 23 rfl) (qO 19 24 rfl) (yah _) (fun w u v h1 h2 => yf0 (by omega) (by omega) w u v ((fun _ _ h => h) _ _ h1) ((ya0 yi3) _ _ h2))⟩, yeg (wI 14 19) (oO 20 25) (yac _) (h := hone)⟩, pF wA (oO 14 19) (oO 21 26)⟩
  intro B2 a2 W2 (S2 : Zt [_] [_])
  refine wp_cond_true (S2.bool 0 27 rfl) ?_
  refine wq [kF] [.inr 0] [.inl 0] S2 ?_ ?_
  ·exact jj1 mC
  intro B3 a3 W3 (S3 : Zt [_] [_])
  refine wp_ret (thenR ?_)
  exact ya3 S3 rfl (ya7 S3 0 2 rfl)
 ·skip
  have hone : ((D.getD 0 0) - (1)).sign = 0 := sgn0 (by omega)
  refine wp_seq ?_
  refine wq [V (Part a1 1 1), V (Mv nL L K), V (iV (nL : Nat)), kF, kF, V (Part a1 1 0), V (Vv nD D K), V (iV (nD : Nat)), V (Part a1 1 1), V (Mv nL L K), V (iV (nL : Nat)), V (iV ((nL + 1 : Nat) : Int)), kF, kF, kF, V (Part a1 1 0), V (Vv nD D K), V (AtE 2 (Zv (D.getD 0 0) K)), V (Zv (D.getD 0 0) K), Fw (ZN (1)) w, V (iV (((D.getD 0 0) - 1).sign)), kF, kF] [.inr 0] [.inl 22] S1 ?_ ?_
  ·exact ⟨⟨⟨⟨⟨⟨⟨⟨⟨⟨⟨⟨⟨⟨⟨jj8 (ptA wA 0 yb0) (plA wA (oO 0 5) 0 rfl rfl (ploadS rfl ycm)) (lnA wA (oO 1 6) Tryz.underlying36) (yci wA (oO 2 7) (yac _)) (mO 3 8) (ptZ (wI 4 9) 0 ydd) (plA (wI 4 9) (oO 5 10) 0 rfl rfl (ploadS rfl ydq)) (lnA (wI 4 9) (oO 6 11) Tryz.underlying35), ptA (wI 4 9) 0 yb0⟩, plA (wI 4 9) (oO 8 13) 0 rfl rfl (ploadS rfl ycm)⟩, lnA (wI 4 9) (oO 9 14) Tryz.underlying36⟩, ybc (wI 4 9) (oO 10 15) (yac _)⟩, yc0 (wI 4 9) (oO 7 12) (oO 11 16)⟩, pF wA (oO 4 9) (oO 12 17)⟩, mO 13 18⟩, ptZ (wI 14 19) 0 ydd⟩, plA (wI 14 19) (oO 15 20) 0 rfl rfl (ploadS rfl ydq)⟩, axA (wI 14 19) yb2 (oO 16 21) (yac _) (ygi (k := 0) (by omega)) rfl⟩, alC (wI 14 19) ya5 yaj (oO 17 22)⟩, cc1 (wI 14 19) (yac _) (yaf _) (yio (1) (by omega) (by omega))⟩, cc2 (wI 14 19) (qO 18 23 rfl) (qO 19 24 rfl) (yah _) (fun w u v h1 h2 => yf0 (by omega) (by omega) w u v ((fun _ _ h => h) _ _ h1) ((ya0 yi3) _ _ h2))⟩, yc0 (wI 14 19) (oO 20 25) (yac _) (h := hone)⟩, pF wA (oO 14 19) (oO 21 26)⟩
  intro B2 a2 W2 (S2 : Zt [_] [_])
  refine wp_cond_false (S2.bool 0 27 rfl) (wp_skip (thenN (wp_seq ?_)))
  refine wq [V (Part a2 1 1), V (Mv nL L K), V (iV (nL : Nat)), V (iV 0)] [.inr 0] [.inl 1, .inl 2, .inl 3] S2 ?_ ?_
  ·exact jj4 (ptA wA 0 yb0) (plA wA (oO 0 28) 0 rfl rfl (ploadS rfl ycm)) (lnA wA (oO 1 29) Tryz.underlying36) mC
  intro B3 a3 W3 (S3 : Zt [_] [_,_,_])
  refine wp_block ?_
  refine ycd (fun (k0 : Nat) a W => (k0 ≤ i0) ∧ ∃ Bq, Sta w 51 [(1, (.box 38 (SF [(Vv nD D K), (Mv nL L K)])))] [(29, Mv nL L K), (30, iV (nL : Nat)), (31, iV (k0 : Nat))] Bq a W) (fun (k0 : Nat) => nL - k0) ?_ 0 ⟨zd7 _, B3, S3.sub [0] [0, 1, 2]⟩
  rintro k0 a4 _ ⟨hcond, _, S4⟩
  by_cases hlt : k0 < i0
  ·have hr := (g5 k0 hlt).1
   have hp := ysl (g5 k0 hlt).2
   refine wq [kT] [.inr 0] (.inl 0 :: ur3) S4 ?_ ?_
   ·exact jj1 (ybu wA (oS 2 31) (oS 1 30))
   intro B5 a5 W5 (S5 : Zt [_] [_,_,_,_])
   refine wp_seq (wp_cond_true (S5.bool 0 32 rfl) (wp_skip (thenN (wp_seq (wp_block ?_)))))
   refine wq [V (iV (k0 : Nat)), V (AtE 1 (yf7 K L k0)), V (yf7 K L k0), V (iV (k0 : Nat)), V (yf7 K L k0)] [.inr 0] [.inl 3, .inl 4, .inr 1, .inr 2, .inr 3] S5 ?_ ?_
   ·exact jj5 (mS 3 31) (axA wA yj2 (oS 1 29) (oS 3 31) (yze (by omega)) rfl) (alA wA ybq ye8 (oO 1 34)) (mO 0 33) (mO 2 35)
   intro B6 a6 W6 (S6 : Zt [_] [_,_,_,_,_])
   refine wq [V (yf7 K L k0), V (iV ((L.getD k0 []).length : Nat)), V (iV (k0 : Nat)), kF, kF, V (Part a6 1 0), V (Vv nD D K), V (iV (k0 : Nat)), V (iV ((k0 + 1 : Nat) : Int)), V (AtE 2 (Zv (D.getD (k0 + 1) 0) K)), V (Zv (D.getD (k0 + 1) 0) K), V (iV ((D.getD (k0 + 1) 0).sign)), kF, kF] [.inr 0] [.inl 13, .inr 2, .inr 3, .inr 4] S6 ?_ ?_
   ·exact ⟨⟨⟨⟨⟨⟨jj8 (mS 1 4) (lnA wA (oO 0 36) Tryz.underlying35) (mS 0 3) (yc0 wA (oO 1 37) (oO 2 38)) (mO 3 39) (ptZ (wI 4 40) 0 ydd) (plA (wI 4 40) (oO 5 41) 0 rfl rfl (ploadS rfl ydq)) (mW (wI 4 40) (oS 0 3)), ybc (wI 4 40) (oO 7 43) (yac _)⟩, axA (wI 4 40) yb2 (oO 6 42) (oO 8 44) (ygi (by omega)) rfl⟩, alC (wI 4 40) ya5 yaj (oO 9 45)⟩, cc1 (wI 4 40) (qO 10 46 rfl) (yah _) (fun w u h1 => yfh (by omega) w u ((fun _ _ h => h) _ _ h1))⟩, yhl (wI 4 40) (oO 11 47) (yac _)⟩, pF wA (oO 4 40) (oO 12 48)⟩
   intro B7 a7 W7 (S7 : Zt [_] [_,_,_,_])
   refine wp_cond_false (S7.bool 0 49 rfl) (wp_skip (inBlkN (thenN ?_)))
   refine wr [V (iV (k0 + 1 : Nat)), V (iV (k0 + 1 : Nat))] [.inr 0] [.inl 1, .inr 1, .inr 2] S7 ?_ ?_
   ·exact jj2 (ybc wA (oS 3 31) (yac _)) (mO 0 50)
   intro B8 a8 W8 (S8 : Zt [_] [_,_,_])
   refine thenN ?_
   exact ⟨k0 + 1, ⟨by omega, B8, S8.sub [0] [1, 2, 0]⟩, by omega⟩
  ·have ek : k0 = i0 := by omega
   rw [← ek] at g6
   rcases g6 with ⟨g6, rfl⟩ | ⟨g8, rfl, g6⟩
   ·skip
    refine wq [kF] [.inr 0] (.inl 0 :: ur3) S4 ?_ ?_
    ·exact jj1 (ya8 wA (oS 2 31) (oS 1 30))
    intro B5 a5 W5 (S5 : Zt [_] [_,_,_,_])
    refine wp_seq (wp_cond_false (S5.bool 0 32 rfl) (wp_exit (thenX (thenX (inBlkE (thenN ?_))))))
    refine wq [kT] [.inr 0] [.inl 0, .inr 1, .inr 2, .inr 3] S5 ?_ ?_
    ·exact jj1 mC
    intro B6 a6 W6 (S6 : Zt [_] [_,_,_,_])
    refine wp_ret ?_
    exact ya3 S6 rfl (ya7 S6 0 2 rfl)
   ·skip
    refine wq [kT] [.inr 0] (.inl 0 :: ur3) S4 ?_ ?_
    ·exact jj1 (ybu wA (oS 2 31) (oS 1 30))
    intro B5 a5 W5 (S5 : Zt [_] [_,_,_,_])
    refine wp_seq (wp_cond_true (S5.bool 0 32 rfl) (wp_skip (thenN (wp_seq (wp_block ?_)))))
    refine wq [V (iV (k0 : Nat)), V (AtE 1 (yf7 K L k0)), V (yf7 K L k0), V (iV (k0 : Nat)), V (yf7 K L k0)] [.inr 0] [.inl 3, .inl 4, .inr 1, .inr 2, .inr 3] S5 ?_ ?_
    ·exact jj5 (mS 3 31) (axA wA yj2 (oS 1 29) (oS 3 31) (yze (by omega)) rfl) (alA wA ybq ye8 (oO 1 34)) (mO 0 33) (mO 2 35)
    intro B6 a6 W6 (S6 : Zt [_] [_,_,_,_,_])
    rcases g6 with g6 | ⟨g6, g7⟩
    ·skip
     refine wq [V (yf7 K L k0), V (iV ((L.getD k0 []).length : Nat)), V (iV (k0 : Nat)), kT, kT, .off, .off, .off, .off, .off, .off, .off, .off, kT] [.inr 0] [.inl 13, .inr 2, .inr 3, .inr 4] S6 ?_ ?_
     ·exact ⟨⟨⟨⟨⟨⟨jj8 (mS 1 4) (lnA wA (oO 0 36) Tryz.underlying35) (mS 0 3) (yeg wA (oO 1 37) (oO 2 38)) (mO 3 39) (oF 4 40) (oF 4 40) (oF 4 40), oF 4 40⟩, oF 4 40⟩, oF 4 40⟩, oF 4 40⟩, oF 4 40⟩, pT wA (oO 4 40) (yac _)⟩
     intro B7 a7 W7 (S7 : Zt [_] [_,_,_,_])
     refine wp_cond_true (S7.bool 0 49 rfl) ?_
     refine wq [kF] [.inr 0] [.inl 0, .inr 1, .inr 2, .inr 3] S7 ?_ ?_
     ·exact jj1 mC
     intro B8 a8 W8 (S8 : Zt [_] [_,_,_,_])
     refine wp_ret (inBlkR (thenR (thenR (inBlkR (thenR ?_)))))
     exact ya3 S8 rfl (ya7 S8 0 2 rfl)
    ·skip
     have hp := ykw g7
     refine wq [V (yf7 K L k0), V (iV ((L.getD k0 []).length : Nat)), V (iV (k0 : Nat)), kF, kF, V (Part a6 1 0), V (Vv nD D K), V (iV (k0 : Nat)), V (iV ((k0 + 1 : Nat) : Int)), V (AtE 2 (Zv (D.getD (k0 + 1) 0) K)), V (Zv (D.getD (k0 + 1) 0) K), V (iV ((D.getD (k0 + 1) 0).sign)), kT, kT] [.inr 0] [.inl 13, .inr 2, .inr 3, .inr 4] S6 ?_ ?_
     ·exact ⟨⟨⟨⟨⟨⟨jj8 (mS 1 4) (lnA wA (oO 0 36) Tryz.underlying35) (mS 0 3) (yc0 wA (oO 1 37) (oO 2 38)) (mO 3 39) (ptZ (wI 4 40) 0 ydd) (plA (wI 4 40) (oO 5 41) 0 rfl rfl (ploadS rfl ydq)) (mW (wI 4 40) (oS 0 3)), ybc (wI 4 40) (oO 7 43) (yac _)⟩, axA (wI 4 40) yb2 (oO 6 42) (oO 8 44) (ygi (by omega)) rfl⟩, alC (wI 4 40) ya5 yaj (oO 9 45)⟩, cc1 (wI 4 40) (qO 10 46 rfl) (yah _) (fun w u h1 => yfh (by omega) w u ((fun _ _ h => h) _ _ h1))⟩, ymr (wI 4 40) (oO 11 47) (yac _)⟩, pF wA (oO 4 40) (oO 12 48)⟩
     intro B7 a7 W7 (S7 : Zt [_] [_,_,_,_])
     refine wp_cond_true (S7.bool 0 49 rfl) ?_
     refine wq [kF] [.inr 0] [.inl 0, .inr 1, .inr 2, .inr 3] S7 ?_ ?_
     ·exact jj1 mC
     intro B8 a8 W8 (S8 : Zt [_] [_,_,_,_])
     refine wp_ret (inBlkR (thenR (thenR (inBlkR (thenR ?_)))))
     exact ya3 S8 rfl (ya7 S8 0 2 rfl)
theorem zcq (w : World) (u : Value) (nD nL K : Nat) (D : List Int) (L : List (List Int)) (h : Hs w (SF [Vv nD D K, Mv nL L K]) u) (hD : nD ≤ 1048576) (hL : nL ≤ 1048576) (hK : K ≤ 1048576) (lD : D.length = nD) (lL : L.length = nL) (g : Good D L) : CG 77 #[u] w (IS (.bool true)) := zcp w u nD nL K D L h hD hL hK lD lL true (Or.inl ⟨g, rfl⟩)
theorem mu_e (w : World) (u : Value) (nD nL K : Nat) (D : List Int) (L : List (List Int)) (h : Hs w (SF [Vv nD D K, Mv nL L K]) u) (hD : nD ≤ 1048576) (hL : nL ≤ 1048576) (hK : K ≤ 1048576) (lD : D.length = nD) (lL : L.length = nL) (i : Nat) (g : Good D L) (hi : i < nL) :
  CG 42 #[u, .int .i64 (i : Nat), .int .i64 (i : Nat)] w (TWO (RN 1 1) (IS (.int .i64 0))) := by
 refine yap (sl := [(0, (SF [(Vv nD D K), (Mv nL L K)])), (1, (iV (i : Nat))), (2, (iV (i : Nat)))]) Tryz.func42 rfl Tryz.ntmps42 (by simp) (yai rfl (h) (yai rfl (ycw _) (yai rfl (ycw _) yat))) ?_
 intro a0 S0
 refine wq [.new (.box 38 (SF [(Vv nD D K), (Mv nL L K)])), .new (.box 26 zR), V (iV 0)] [.inl 0, .inl 1] [.inr 1, .inr 2] S0 ?_ ?_
 ·exact jj3 (bxA wA (oS 0 0) (yjs yfm)) (nwA wA yb4) mC
 intro _ a1 _ (S1 : Zt [_,_] [_,_])
 refine wp_seq (wp_block ?_)
 refine wq [V (SF [(Vv nD D K), (Mv nL L K)]), kT, kF, kF] ur2 (.inl 3 :: ur2) S1 ?_ ?_
 ·exact jj4 (loA 0 wA ygd yfm) (ch1 wA (qO 0 9 rfl) (yah _) (fun w u h => zcq w u nD nL K D L h hD hL hK lD lL g)) (yfe wA (oO 1 10)) (mO 2 11)
 intro _ a2 _ (S2 : Zt [_,_] [_,_,_])
 refine wp_cond_false (S2.bool 0 8 rfl) ?_
 refine wq [V (iV (i : Nat)), kF, kF, V (iV (i : Nat)), V (iV (i : Nat)), kF, kF, kF, V (iV (i : Nat)), V (Part a2 3 1), V (Mv nL L K), V (iV (nL : Nat)), kF, kF, kF] ur2 [.inl 14, .inr 1, .inr 2] S2 ?_ ?_
 ·exact ⟨⟨⟨⟨⟨⟨⟨jj8 (mS 2 2) (ya8 wA (oO 0 14) (yac _)) (mO 1 15) (mW (wI 2 16) (oS 2 2)) (mW (wI 2 16) (oS 1 1)) (ycj (wI 2 16) (oO 3 17) (oO 4 18)) (pF wA (oO 2 16) (oO 5 19)) (mO 6 20), mW (wI 7 21) (oS 1 1)⟩, ptA (wI 7 21) 0 yb0⟩, plA (wI 7 21) (oO 9 23) 0 rfl rfl (ploadS rfl ycm)⟩, lnA (wI 7 21) (oO 10 24) Tryz.underlying36⟩, yfd (wI 7 21) (oO 8 22) (oO 11 25)⟩, pF wA (oO 7 21) (oO 12 26)⟩, mO 13 27⟩
 intro _ a3 _ (S3 : Zt [_,_] [_,_,_])
 refine wp_cond_false (S3.bool 0 13 rfl) ?_
 refine wq [V (iV (i : Nat)), V (iV (i : Nat)), kT, kT] ur2 [.inl 3, .inr 1, .inr 2] S3 ?_ ?_
 ·exact jj4 (mS 2 2) (mS 1 1) (ybt wA (oO 0 30) (oO 1 31)) (mO 2 32)
 intro _ a4 _ (S4 : Zt [_,_] [_,_,_])
 refine wp_cond_true (S4.bool 0 29 rfl) ?_
 refine wq [Fw (ZN (1)) w, Fw (RN 1 1) w, .put (.inl 6) (.box 26 ((RN 1 1) w.heap.size)), V (iV 0)] ur2 [.inl 3] S4 ?_ ?_
 ·exact jj4 (cc1 wA (yac _) (yaf _) (yio (1) (by omega) (by omega))) (cc1 wA (qO 0 33 rfl) (ybx _ _) (fun w u h1 => ymz (k := 1) (by omega) w u (ya0 yi3 _ _ h1))) (seA 1 wA (oO 1 34) yas yd7 (yay yae yae)) mC
 intro _ a5 _ (S5 : Zt [_,_] [_])
 refine wp_ret (inBlkR (thenR ?_))
 exact ydo S5 rfl (ya2 S5 1 6 rfl yas (yay yae yae)) (ya7 S5 0 7 rfl)
def QQ (P : Int) (Q : Nat) : Nat → Pr := RN (nR P Q) (dR P Q)
def dN (D : List Int) (i : Nat) : Nat := (D.getD i 0).toNat
theorem zao {n k : Nat} {A : List (List Int)} {u : Value} {w : World} (h : Mv n A k u w) : Mdl A k := fun i r hr => by
 obtain ⟨p, c, _, _, _, hall⟩ := h
 obtain ⟨b, o, v, _, _, _, hv⟩ := hall i (Vv r.length r k) (by rw [zds, hr]; rfl)
 exact ys8 hv
theorem yue {L : List (List Int)} {K : Nat} (h : Mdl L K) (i : Nat) : Dl (L.getD i []) K := by
 rw [zdj]
 cases e : L[i]? with
 | none => exact fun j z hz => by simp at hz
 | some r => exact h i r e

end Go.Proofs.YtdnindaohpdblaaGreat
