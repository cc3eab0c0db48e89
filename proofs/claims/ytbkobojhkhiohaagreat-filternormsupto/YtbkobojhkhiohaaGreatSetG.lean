import Derived.Test.YtbkobojhkhiohaaGreatSetQ
set_option linter.all false
namespace Go.Proofs.YtbkobojhkhiohaaGreat
open Go Go.RowKit Nt
set_option maxRecDepth 20000
set_option maxHeartbeats 16000000
theorem ytc (w : World) (s t : Bool) (p q : Option Addr) (n c m d : Nat) (xs ys : List Nat) (h : Sl w p n c xs) (h' : Sl w q m d ys) (A B X R : Int) (eA : sg s (val xs) = A) (eB : sg t (val ys) = B) (eX : sg (s != t) (val xs / val ys) = X) (eR : A - X * B = R) (dR : (digs R.natAbs).length ≤ m) (hy : val ys ≠ 0) (hs : n + m + 1 ≤ 35184372088831) (h0 : R.sign = 0) :
  Calls Tryz.prog 94 #[.agg #[.bool s, .slice p n c], .agg #[.bool t, .slice q m d]] w (Gives (TWO (ZN (X)) (ZN (R))) w) := by
 have dA : (digs A.natAbs).length ≤ n := by rw [← eA]; exact ygv h
 have dB : (digs B.natAbs).length ≤ m := by rw [← eB]; exact ygv h'
 have dX : (digs X.natAbs).length ≤ n := by rw [← eX, sg_abs]; exact ze6 (yae (zfy _ _)) h.dl
 have dXB := yco dX dB
 have dq : (digs (val xs / val ys)).length ≤ n := ze6 (yae (zfy _ _)) h.dl
 refine yan (sl := [(0, (Zx s p n c xs)), (1, (Zx t q m d ys))]) Tryz.func94 rfl Tryz.ntmps94 (by simp) (yad rfl (yfp h) (yad rfl (yfp h') yar)) ?_
 intro a0 S0
 refine wq [.new (.box 29 (Zx s p n c xs)), .new (.box 29 (Zx t q m d ys)), .new (.box 29 zI), .new (.box 29 zI)] [.inl 0, .inl 1, .inl 2, .inl 3] [] S0 ?_ ?_
 ·exact jj4 (bxA wA (oS 0 0) (ycz ycm)) (bxA wA (oS 1 1) (ycz ycm)) (nwA wA yal) (nwA wA yal)
 intro _ a1 _ (S1 : Zt [_,_,_,_] [])
 refine wq [V (Part a1 2 1), V (Nx p n c xs), V (Part a1 3 1), V (Nx q m d ys), Fw (THREE (NN (val xs / val ys)) (NN (val xs % val ys)) (IS (.int .i64 0))) w, Fw (THREE (NN (val xs / val ys)) (NN (val xs % val ys)) (IS (.int .i64 0))) w, Fw (NN (val xs / val ys)) w, Fw (NN (val xs % val ys)) w, V (iV 0), Fw (NN (val xs / val ys)) w, Fw (NN (val xs % val ys)) w, V (iV 0)] ur4 [.inl 9] S1 ?_ ?_
 ·exact ⟨⟨⟨⟨jj8 (ptA wA 0 yc4) (plA wA (oO 0 12) 0 rfl rfl (yc5 yfq)) (ptA wA 1 yc4) (plA wA (oO 2 14) 1 rfl rfl (yc5 yfq)) (cc2 wA (qO 1 13 rfl) (qO 3 15 rfl) (yck (ydg _) (ydg _) (yaf _)) (fun w u v h1 h2 => yrx hy (by omega) (by omega) w u v ((yii (ze5 _)) _ _ h1) ((yii (ze5 _)) _ _ h2))) (mO 4 16) (e30 wA (oO 5 11)) (e31 wA (oO 5 11)), e32 wA (oO 5 11)⟩, mO 6 17⟩, mO 7 18⟩, mO 8 19⟩
 intro _ a2 _ (S2 : Zt [_,_,_,_] [_])
 refine wq [V (Part a2 2 0), V (Is (.bool s)), V (Part a2 3 0), V (Is (.bool t)), V (Is (.bool (s != t))), Fw (NN (val xs / val ys)) w, Fw (ZN (X)) w, .new (.box 29 zI), .put (.inr 7) (.box 29 ((ZN (X)) w.heap.size))] [.inr 0, .inr 1, .inr 2, .inr 3, .inl 7] [] S2 ?_ ?_
 ·exact ⟨jj8 (ptZ wA 0 ydu) (plA wA (oO 0 20) 0 rfl rfl (ydv yhp)) (ptZ wA 1 ydu) (plA wA (oO 2 22) 1 rfl rfl (ydv yhp)) (yft wA (oO 1 21) (oO 3 23)) (mS 0 6) (cc2 wA (qO 4 24 rfl) (qO 5 25 rfl) (yai _) (fun w u0 u1 h0 h1 => Gives.cast ((fun w u v h1 h2 => yrw (by omega) w u v h1 ((yyx dq) _ _ h2)) w u0 u1 h0 h1) (by rw [eX]))) (nwA wA yal), puA 7 wA (oO 6 26) yaa yao yah⟩
 intro _ a3 _ (S3 : Zt [_,_,_,_,_] [])
 refine wq [V (Zx s p n c xs), Fw (ZN (X)) w, V (Zx t q m d ys), Fw (ZN (X * B)) w, Fw (ZN (R)) w, .new (.box 29 zI), .put (.inr 5) (.box 29 ((ZN (R)) w.heap.size))] [.inr 0, .inr 1, .inr 2, .inr 3, .inr 4, .inl 5] [] S3 ?_ ?_
 ·repeat' refine And.intro ?_ ?_
  ·trivial
  ·exact loA 0 wA yaa ycm
  ·exact loA 4 wA yaa yah
  ·exact loA 1 wA yaa ycm
  ·exact cc2 wA (qO 1 28 rfl) (qO 2 29 rfl) (yai _) (fun w u v h1 h2 => yl8 (by omega) w u v ((ya4 dX) _ _ h1) ((ygc eB (ze5 _)) _ _ h2))
  ·exact cc2 wA (qO 0 27 rfl) (qO 3 30 rfl) (yai _) (fun w u0 u1 h0 h1 => Gives.cast ((fun w u v h1 h2 => yo1 (by omega) (by omega) w u v ((ygc eA (ze5 _)) _ _ h1) ((ya4 dXB) _ _ h2)) w u0 u1 h0 h1) (by rw [eR]))
  ·exact nwA wA yal
  ·exact puA 5 wA (oO 4 31) yaa yao yah
 intro _ a4 _ (S4 : Zt [_,_,_,_,_,_] [])
 refine wp_seq ?_
 refine wq [Fw (ZN (R)) w, V (iV ((R).sign)), kF, kF, .off, .off, .off, .off, .off, kF] ur6 [.inl 9] S4 ?_ ?_
 ·exact ⟨⟨jj8 (loA 5 wA yaa yah) (cc1 wA (qO 0 32 rfl) (yaf _) (fun w u h1 => ydh (by omega) w u ((ya4 dR) _ _ h1))) (ya0 wA (oO 1 33) (yab _) (h := h0)) (mO 2 34) (oF 3 35) (oF 3 35) (oF 3 35) (oF 3 35), oF 3 35⟩, pF wA (oO 3 35) (yab _)⟩
 intro _ a5 _ (S5 : Zt [_,_,_,_,_,_] [_])
 refine wp_cond_false (S5.bool 0 41 rfl) (wp_skip (thenN ?_))
 refine wq [Fw (ZN (X)) w, Fw (ZN (R)) w, .put (.inl 4) (.box 29 ((ZN (X)) w.heap.size)), .put (.inl 5) (.box 29 ((ZN (R)) w.heap.size))] ur6 [.inr 0] S5 ?_ ?_
 ·exact jj4 (loA 4 wA yaa yah) (loA 5 wA yaa yah) (seA 2 wA (oO 0 48) yaa yao yah) (seA 3 wA (oO 1 49) yaa yao yah)
 intro _ a6 _ (S6 : Zt [_,_,_,_,_,_] [_])
 refine wp_ret ?_
 exact ydc S6 rfl (yau S6 2 4 rfl yaa yah) (yau S6 3 5 rfl yaa yah)
theorem ytd (w : World) (s t : Bool) (p q : Option Addr) (n c m d : Nat) (xs ys : List Nat) (h : Sl w p n c xs) (h' : Sl w q m d ys) (A B X R : Int) (eA : sg s (val xs) = A) (eB : sg t (val ys) = B) (eX : sg (s != t) (val xs / val ys) = X) (eR : A - X * B = R) (dR : (digs R.natAbs).length ≤ m) (hy : val ys ≠ 0) (hs : n + m + 1 ≤ 35184372088831) (h0 : R.sign ≠ 0) (hS : R.sign = B.sign) :
  Calls Tryz.prog 94 #[.agg #[.bool s, .slice p n c], .agg #[.bool t, .slice q m d]] w (Gives (TWO (ZN (X)) (ZN (R))) w) := by
 have dA : (digs A.natAbs).length ≤ n := by rw [← eA]; exact ygv h
 have dB : (digs B.natAbs).length ≤ m := by rw [← eB]; exact ygv h'
 have dX : (digs X.natAbs).length ≤ n := by rw [← eX, sg_abs]; exact ze6 (yae (zfy _ _)) h.dl
 have dXB := yco dX dB
 have dq : (digs (val xs / val ys)).length ≤ n := ze6 (yae (zfy _ _)) h.dl
 refine yan (sl := [(0, (Zx s p n c xs)), (1, (Zx t q m d ys))]) Tryz.func94 rfl Tryz.ntmps94 (by simp) (yad rfl (yfp h) (yad rfl (yfp h') yar)) ?_
 intro a0 S0
 refine wq [.new (.box 29 (Zx s p n c xs)), .new (.box 29 (Zx t q m d ys)), .new (.box 29 zI), .new (.box 29 zI)] [.inl 0, .inl 1, .inl 2, .inl 3] [] S0 ?_ ?_
 ·exact jj4 (bxA wA (oS 0 0) (ycz ycm)) (bxA wA (oS 1 1) (ycz ycm)) (nwA wA yal) (nwA wA yal)
 intro _ a1 _ (S1 : Zt [_,_,_,_] [])
 refine wq [V (Part a1 2 1), V (Nx p n c xs), V (Part a1 3 1), V (Nx q m d ys), Fw (THREE (NN (val xs / val ys)) (NN (val xs % val ys)) (IS (.int .i64 0))) w, Fw (THREE (NN (val xs / val ys)) (NN (val xs % val ys)) (IS (.int .i64 0))) w, Fw (NN (val xs / val ys)) w, Fw (NN (val xs % val ys)) w, V (iV 0), Fw (NN (val xs / val ys)) w, Fw (NN (val xs % val ys)) w, V (iV 0)] ur4 [.inl 9] S1 ?_ ?_
 ·exact ⟨⟨⟨⟨jj8 (ptA wA 0 yc4) (plA wA (oO 0 12) 0 rfl rfl (yc5 yfq)) (ptA wA 1 yc4) (plA wA (oO 2 14) 1 rfl rfl (yc5 yfq)) (cc2 wA (qO 1 13 rfl) (qO 3 15 rfl) (yck (ydg _) (ydg _) (yaf _)) (fun w u v h1 h2 => yrx hy (by omega) (by omega) w u v ((yii (ze5 _)) _ _ h1) ((yii (ze5 _)) _ _ h2))) (mO 4 16) (e30 wA (oO 5 11)) (e31 wA (oO 5 11)), e32 wA (oO 5 11)⟩, mO 6 17⟩, mO 7 18⟩, mO 8 19⟩
 intro _ a2 _ (S2 : Zt [_,_,_,_] [_])
 refine wq [V (Part a2 2 0), V (Is (.bool s)), V (Part a2 3 0), V (Is (.bool t)), V (Is (.bool (s != t))), Fw (NN (val xs / val ys)) w, Fw (ZN (X)) w, .new (.box 29 zI), .put (.inr 7) (.box 29 ((ZN (X)) w.heap.size))] [.inr 0, .inr 1, .inr 2, .inr 3, .inl 7] [] S2 ?_ ?_
 ·exact ⟨jj8 (ptZ wA 0 ydu) (plA wA (oO 0 20) 0 rfl rfl (ydv yhp)) (ptZ wA 1 ydu) (plA wA (oO 2 22) 1 rfl rfl (ydv yhp)) (yft wA (oO 1 21) (oO 3 23)) (mS 0 6) (cc2 wA (qO 4 24 rfl) (qO 5 25 rfl) (yai _) (fun w u0 u1 h0 h1 => Gives.cast ((fun w u v h1 h2 => yrw (by omega) w u v h1 ((yyx dq) _ _ h2)) w u0 u1 h0 h1) (by rw [eX]))) (nwA wA yal), puA 7 wA (oO 6 26) yaa yao yah⟩
 intro _ a3 _ (S3 : Zt [_,_,_,_,_] [])
 refine wq [V (Zx s p n c xs), Fw (ZN (X)) w, V (Zx t q m d ys), Fw (ZN (X * B)) w, Fw (ZN (R)) w, .new (.box 29 zI), .put (.inr 5) (.box 29 ((ZN (R)) w.heap.size))] [.inr 0, .inr 1, .inr 2, .inr 3, .inr 4, .inl 5] [] S3 ?_ ?_
 ·repeat' refine And.intro ?_ ?_
  ·trivial
  ·exact loA 0 wA yaa ycm
  ·exact loA 4 wA yaa yah
  ·exact loA 1 wA yaa ycm
  ·exact cc2 wA (qO 1 28 rfl) (qO 2 29 rfl) (yai _) (fun w u v h1 h2 => yl8 (by omega) w u v ((ya4 dX) _ _ h1) ((ygc eB (ze5 _)) _ _ h2))
  ·exact cc2 wA (qO 0 27 rfl) (qO 3 30 rfl) (yai _) (fun w u0 u1 h0 h1 => Gives.cast ((fun w u v h1 h2 => yo1 (by omega) (by omega) w u v ((ygc eA (ze5 _)) _ _ h1) ((ya4 dXB) _ _ h2)) w u0 u1 h0 h1) (by rw [eR]))
  ·exact nwA wA yal
  ·exact puA 5 wA (oO 4 31) yaa yao yah
 intro _ a4 _ (S4 : Zt [_,_,_,_,_,_] [])
 refine wp_seq ?_
 refine wq [Fw (ZN (R)) w, V (iV ((R).sign)), kT, kT, Fw (ZN (R)) w, V (iV ((R).sign)), V (Zx t q m d ys), V (iV ((B).sign)), kF, kF] ur6 [.inl 9] S4 ?_ ?_
 ·exact ⟨⟨jj8 (loA 5 wA yaa yah) (cc1 wA (qO 0 32 rfl) (yaf _) (fun w u h1 => ydh (by omega) w u ((ya4 dR) _ _ h1))) (ybb wA (oO 1 33) (yab _) (h := h0)) (mO 2 34) (loA 5 (wI 3 35) yaa yah) (cc1 (wI 3 35) (qO 4 36 rfl) (yaf _) (fun w u h1 => ydh (by omega) w u ((ya4 dR) _ _ h1))) (loA 1 (wI 3 35) yaa ycm) (cc1 (wI 3 35) (qO 6 38 rfl) (yaf _) (fun w u h1 => ydh (by omega) w u ((ygc eB (ze5 _)) _ _ h1))), ya0 (wI 3 35) (oO 5 37) (oO 7 39) (h := hS)⟩, pT wA (oO 3 35) (oO 8 40)⟩
 intro _ a5 _ (S5 : Zt [_,_,_,_,_,_] [_])
 refine wp_cond_false (S5.bool 0 41 rfl) (wp_skip (thenN ?_))
 refine wq [Fw (ZN (X)) w, Fw (ZN (R)) w, .put (.inl 4) (.box 29 ((ZN (X)) w.heap.size)), .put (.inl 5) (.box 29 ((ZN (R)) w.heap.size))] ur6 [.inr 0] S5 ?_ ?_
 ·exact jj4 (loA 4 wA yaa yah) (loA 5 wA yaa yah) (seA 2 wA (oO 0 48) yaa yao yah) (seA 3 wA (oO 1 49) yaa yao yah)
 intro _ a6 _ (S6 : Zt [_,_,_,_,_,_] [_])
 refine wp_ret ?_
 exact ydc S6 rfl (yau S6 2 4 rfl yaa yah) (yau S6 3 5 rfl yaa yah)
theorem yte (w : World) (s t : Bool) (p q : Option Addr) (n c m d : Nat) (xs ys : List Nat) (h : Sl w p n c xs) (h' : Sl w q m d ys) (A B X R : Int) (eA : sg s (val xs) = A) (eB : sg t (val ys) = B) (eX : sg (s != t) (val xs / val ys) = X) (eR : A - X * B = R) (dR : (digs R.natAbs).length ≤ m) (hy : val ys ≠ 0) (hs : n + m + 1 ≤ 35184372088831) (h0 : R.sign ≠ 0) (hS : R.sign ≠ B.sign) :
  Calls Tryz.prog 94 #[.agg #[.bool s, .slice p n c], .agg #[.bool t, .slice q m d]] w (Gives (TWO (ZN (X - 1)) (ZN (R + B))) w) := by
 have dA : (digs A.natAbs).length ≤ n := by rw [← eA]; exact ygv h
 have dB : (digs B.natAbs).length ≤ m := by rw [← eB]; exact ygv h'
 have dX : (digs X.natAbs).length ≤ n := by rw [← eX, sg_abs]; exact ze6 (yae (zfy _ _)) h.dl
 have dXB := yco dX dB
 have dq : (digs (val xs / val ys)).length ≤ n := ze6 (yae (zfy _ _)) h.dl
 have d1 : (digs (1 : Int).natAbs).length ≤ 1 := yke (by decide)
 refine yan (sl := [(0, (Zx s p n c xs)), (1, (Zx t q m d ys))]) Tryz.func94 rfl Tryz.ntmps94 (by simp) (yad rfl (yfp h) (yad rfl (yfp h') yar)) ?_
 intro a0 S0
 refine wq [.new (.box 29 (Zx s p n c xs)), .new (.box 29 (Zx t q m d ys)), .new (.box 29 zI), .new (.box 29 zI)] [.inl 0, .inl 1, .inl 2, .inl 3] [] S0 ?_ ?_
 ·exact jj4 (bxA wA (oS 0 0) (ycz ycm)) (bxA wA (oS 1 1) (ycz ycm)) (nwA wA yal) (nwA wA yal)
 intro _ a1 _ (S1 : Zt [_,_,_,_] [])
 refine wq [V (Part a1 2 1), V (Nx p n c xs), V (Part a1 3 1), V (Nx q m d ys), Fw (THREE (NN (val xs / val ys)) (NN (val xs % val ys)) (IS (.int .i64 0))) w, Fw (THREE (NN (val xs / val ys)) (NN (val xs % val ys)) (IS (.int .i64 0))) w, Fw (NN (val xs / val ys)) w, Fw (NN (val xs % val ys)) w, V (iV 0), Fw (NN (val xs / val ys)) w, Fw (NN (val xs % val ys)) w, V (iV 0)] ur4 [.inl 9] S1 ?_ ?_
 ·exact ⟨⟨⟨⟨jj8 (ptA wA 0 yc4) (plA wA (oO 0 12) 0 rfl rfl (yc5 yfq)) (ptA wA 1 yc4) (plA wA (oO 2 14) 1 rfl rfl (yc5 yfq)) (cc2 wA (qO 1 13 rfl) (qO 3 15 rfl) (yck (ydg _) (ydg _) (yaf _)) (fun w u v h1 h2 => yrx hy (by omega) (by omega) w u v ((yii (ze5 _)) _ _ h1) ((yii (ze5 _)) _ _ h2))) (mO 4 16) (e30 wA (oO 5 11)) (e31 wA (oO 5 11)), e32 wA (oO 5 11)⟩, mO 6 17⟩, mO 7 18⟩, mO 8 19⟩
 intro _ a2 _ (S2 : Zt [_,_,_,_] [_])
 refine wq [V (Part a2 2 0), V (Is (.bool s)), V (Part a2 3 0), V (Is (.bool t)), V (Is (.bool (s != t))), Fw (NN (val xs / val ys)) w, Fw (ZN (X)) w, .new (.box 29 zI), .put (.inr 7) (.box 29 ((ZN (X)) w.heap.size))] [.inr 0, .inr 1, .inr 2, .inr 3, .inl 7] [] S2 ?_ ?_
 ·exact ⟨jj8 (ptZ wA 0 ydu) (plA wA (oO 0 20) 0 rfl rfl (ydv yhp)) (ptZ wA 1 ydu) (plA wA (oO 2 22) 1 rfl rfl (ydv yhp)) (yft wA (oO 1 21) (oO 3 23)) (mS 0 6) (cc2 wA (qO 4 24 rfl) (qO 5 25 rfl) (yai _) (fun w u0 u1 h0 h1 => Gives.cast ((fun w u v h1 h2 => yrw (by omega) w u v h1 ((yyx dq) _ _ h2)) w u0 u1 h0 h1) (by rw [eX]))) (nwA wA yal), puA 7 wA (oO 6 26) yaa yao yah⟩
 intro _ a3 _ (S3 : Zt [_,_,_,_,_] [])
 refine wq [V (Zx s p n c xs), Fw (ZN (X)) w, V (Zx t q m d ys), Fw (ZN (X * B)) w, Fw (ZN (R)) w, .new (.box 29 zI), .put (.inr 5) (.box 29 ((ZN (R)) w.heap.size))] [.inr 0, .inr 1, .inr 2, .inr 3, .inr 4, .inl 5] [] S3 ?_ ?_
 ·repeat' refine And.intro ?_ ?_
  ·trivial
  ·exact loA 0 wA yaa ycm
  ·exact loA 4 wA yaa yah
  ·exact loA 1 wA yaa ycm
  ·exact cc2 wA (qO 1 28 rfl) (qO 2 29 rfl) (yai _) (fun w u v h1 h2 => yl8 (by omega) w u v ((ya4 dX) _ _ h1) ((ygc eB (ze5 _)) _ _ h2))
  ·exact cc2 wA (qO 0 27 rfl) (qO 3 30 rfl) (yai _) (fun w u0 u1 h0 h1 => Gives.cast ((fun w u v h1 h2 => yo1 (by omega) (by omega) w u v ((ygc eA (ze5 _)) _ _ h1) ((ya4 dXB) _ _ h2)) w u0 u1 h0 h1) (by rw [eR]))
  ·exact nwA wA yal
  ·exact puA 5 wA (oO 4 31) yaa yao yah
 intro _ a4 _ (S4 : Zt [_,_,_,_,_,_] [])
 refine wp_seq ?_
 refine wq [Fw (ZN (R)) w, V (iV ((R).sign)), kT, kT, Fw (ZN (R)) w, V (iV ((R).sign)), V (Zx t q m d ys), V (iV ((B).sign)), kT, kT] ur6 [.inl 9] S4 ?_ ?_
 ·exact ⟨⟨jj8 (loA 5 wA yaa yah) (cc1 wA (qO 0 32 rfl) (yaf _) (fun w u h1 => ydh (by omega) w u ((ya4 dR) _ _ h1))) (ybb wA (oO 1 33) (yab _) (h := h0)) (mO 2 34) (loA 5 (wI 3 35) yaa yah) (cc1 (wI 3 35) (qO 4 36 rfl) (yaf _) (fun w u h1 => ydh (by omega) w u ((ya4 dR) _ _ h1))) (loA 1 (wI 3 35) yaa ycm) (cc1 (wI 3 35) (qO 6 38 rfl) (yaf _) (fun w u h1 => ydh (by omega) w u ((ygc eB (ze5 _)) _ _ h1))), ybb (wI 3 35) (oO 5 37) (oO 7 39) (h := hS)⟩, pT wA (oO 3 35) (oO 8 40)⟩
 intro _ a5 _ (S5 : Zt [_,_,_,_,_,_] [_])
 refine wp_cond_true (S5.bool 0 41 rfl) ?_
 refine wq [Fw (ZN (X)) w, Fw (ZN (1)) w, Fw (ZN (X - 1)) w, .put (.inl 9) (.box 29 ((ZN (X - 1)) w.heap.size))] ur6 [.inr 0] S5 ?_ ?_
 ·exact jj4 (loA 4 wA yaa yah) (cc1 wA (yab _) (yai _) (yki 1 (by omega) (by omega))) (cc2 wA (qO 0 42 rfl) (qO 1 43 rfl) (yai _) (fun w u v h1 h2 => yo1 (by omega) (by omega) w u v ((ya4 dX) _ _ h1) ((ya4 d1) _ _ h2))) (seA 4 wA (oO 2 44) yaa yah yah)
 intro _ a6 _ (S6 : Zt [_,_,_,_,_,_] [_])
 refine wr [Fw (ZN (R)) w, V (Zx t q m d ys), Fw (ZN (R + B)) w, .put (.inl 10) (.box 29 ((ZN (R + B)) w.heap.size))] ur6 [.inr 0] S6 ?_ ?_
 ·exact jj4 (loA 5 wA yaa yah) (loA 1 wA yaa ycm) (cc2 wA (qO 0 45 rfl) (qO 1 46 rfl) (yai _) (fun w u v h1 h2 => yie (by omega) (by omega) w u v ((ya4 dR) _ _ h1) ((ygc eB (ze5 _)) _ _ h2))) (seA 5 wA (oO 2 47) yaa yah yah)
 intro _ a7 _ (S7 : Zt [_,_,_,_,_,_] [_])
 refine thenN ?_
 refine wq [Fw (ZN (X - 1)) w, Fw (ZN (R + B)) w, .put (.inl 4) (.box 29 ((ZN (X - 1)) w.heap.size)), .put (.inl 5) (.box 29 ((ZN (R + B)) w.heap.size))] ur6 [.inr 0] S7 ?_ ?_
 ·exact jj4 (loA 4 wA yaa yah) (loA 5 wA yaa yah) (seA 2 wA (oO 0 48) yaa yao yah) (seA 3 wA (oO 1 49) yaa yao yah)
 intro _ a8 _ (S8 : Zt [_,_,_,_,_,_] [_])
 refine wp_ret ?_
 exact ydc S8 rfl (yau S8 2 4 rfl yaa yah) (yau S8 3 5 rfl yaa yah)
theorem yzq (s t : Bool) (x y : Nat) : sg s x - sg (s != t) (x / y) * sg t y = sg s (x % y) := by
 have e : ((y * (x / y) + x % y : Nat) : Int) = (x : Int) := by rw [zf2]
 rw [zha, zfh] at e
 obtain ⟨q, hq⟩ : ∃ q, x / y = q := ⟨_, rfl⟩
 obtain ⟨r, hr⟩ : ∃ r, x % y = r := ⟨_, rfl⟩
 rw [hq, hr] at e ⊢
 rw [zhx] at e
 cases s <;> cases t <;> simp [sg, zim, ziw] <;> omega
theorem ylh (s : Bool) (r : Nat) : (sg s r).sign = 0 ↔ r = 0 := by
 rw [zhk]
 unfold sg
 split <;> omega
theorem yj1 {s t : Bool} {r y : Nat} (hr : r ≠ 0) (hy : y ≠ 0) : (sg s r).sign = (sg t y).sign ↔ s = t := by
 have h1 : ∀ (b : Bool) (k : Nat), k ≠ 0 → (sg b k).sign = if b then -1 else 1 := by
  intro b k hk
  unfold sg
  cases b
  ·simp only [zhm, if_false]; exact zf9 (by omega)
  ·simp only [if_true]; exact zgk (by omega)
 rw [h1 s r hr, h1 t y hy]
 cases s <;> cases t <;> simp
theorem ykh {A B : Int} {ka kb : Nat} (hB : B ≠ 0) (hk : ka + kb + 1 ≤ 35184372088831) : ∀ w u v, Zv A ka u w → Zv B kb v w → CG 94 #[u, v] w (TWO (ZN (fl A B)) (ZN (rm A B))) := by
 rintro w u v ⟨s, p, n, c, xs, rfl, h, rfl, hn⟩ ⟨t, q, m, d, ys, rfl, h', rfl, hm⟩
 have hy : val ys ≠ 0 := fun e => hB (by rw [e]; cases t <;> rfl)
 have hR := yzq s t (val xs) (val ys)
 have hlt := zf3 (val xs) (zfs hy)
 have dR : (digs (sg s (val xs % val ys)).natAbs).length ≤ m := by rw [sg_abs]; exact ze6 (yae (zgw hlt)) h'.dl
 by_cases h0 : val xs % val ys = 0
 ·obtain ⟨e1, e2⟩ := ydm s t (val xs) (val ys) hy (Or.inr h0)
  refine Gives.cast (ytc w s t p q n c m d xs ys h h' _ _ _ _ rfl rfl rfl hR dR hy (by omega) ((ylh s _).2 h0)) ?_
  rw [← e1]
  unfold rm
  rw [e1, hR]
 ·by_cases hst : s = t
  ·obtain ⟨e1, e2⟩ := ydm s t (val xs) (val ys) hy (Or.inl hst)
   refine Gives.cast (ytd w s t p q n c m d xs ys h h' _ _ _ _ rfl rfl rfl hR dR hy (by omega) (fun e => h0 ((ylh s _).1 e)) ((yj1 h0 hy).2 hst)) ?_
   rw [← e1]
   unfold rm
   rw [e1, hR]
  ·obtain ⟨e1, e2⟩ := ykg s t (val xs) (val ys) hy hst h0
   refine Gives.cast (yte w s t p q n c m d xs ys h h' _ _ _ _ rfl rfl rfl hR dR hy (by omega) (fun e => h0 ((ylh s _).1 e)) (fun e => hst ((yj1 h0 hy).1 e))) ?_
   have f1 : sg (s != t) (val xs / val ys) - 1 = fl (sg s (val xs)) (sg t (val ys)) := by
    rw [e1]
    have : (s != t) = true := by simpa using hst
    rw [this]
    simp only [sg, if_true]
    omega
   rw [f1]
   unfold rm
   rw [← f1, ← hR, Int.sub_mul]
   congr 2
   omega
theorem yz6 {t : Bool} {ys : List Nat} {B : Int} (e : sg t (val ys) = B) (hB : B ≠ 0) : val ys ≠ 0 := fun h => hB (by rw [← e, h]; cases t <;> rfl)
theorem ykj {A B : Int} {ka kb : Nat} (hB : B ≠ 0) (hk : ka + 1 ≤ 70368744177663) (hk' : kb ≤ 70368744177663) : ∀ w u v, Zv A ka u w → Zv B kb v w → CG 62 #[u, v] w (THREE (ZN (fl A B)) (ZN (rm A B)) (IS (.int .i64 0))) := by
 rintro w u v ⟨s, p, n, c, xs, rfl, h, rfl, hn⟩ ⟨t, q, m, d, ys, rfl, h', rfl, hm⟩
 refine (yv3 w s t p q n c m d xs ys h h' (yz6 rfl hB) (by omega) (by omega)).mono ?_
 rintro e w' ⟨bq, Lq, Dq, rq, cq, br, Lr, Dr, rr, cr, rfl, hb, S1, S2, N1, N2, _, _, f1, f2⟩
 exact ⟨_, rfl, hb, _, _, _, rfl, yql N1.out S1.out f1.out, yql N2.out S2.out f2.out, rfl⟩
theorem yfj {A B : Int} (hB : B ≠ 0) : A = fl A B * B + rm A B ∧ (0 < B → 0 ≤ rm A B ∧ rm A B < B) ∧ (B < 0 → B < rm A B ∧ rm A B ≤ 0) := by
 unfold rm
 refine ⟨by omega, fun hp => ?_, fun hp => ?_⟩
 ·unfold fl
  rw [if_pos hp]
  have h1 := Int.emod_nonneg A (by omega : B ≠ 0)
  have h2 := Int.emod_lt_of_pos A hp
  have h3 := Int.mul_ediv_add_emod A B
  rw [zhx] at h3
  omega
 ·unfold fl
  rw [if_neg (by omega)]
  have h1 := Int.emod_nonneg (-A) (by omega : -B ≠ 0)
  have h2 := Int.emod_lt_of_pos (-A) (by omega : 0 < -B)
  have h3 := Int.mul_ediv_add_emod (-A) (-B)
  rw [zhx, ziw] at h3
  omega
def nr (A B : Int) : Int := fl (2 * A + B) (2 * B)
theorem za1 {A B : Int} (hB : B ≠ 0) : (fl A B).natAbs ≤ A.natAbs + 1 := by
 obtain ⟨e, h1, h2⟩ := yfj (A := A) hB
 have key : (fl A B * B).natAbs ≤ A.natAbs + (rm A B).natAbs := by omega
 have hr : (rm A B).natAbs < B.natAbs := by
  rcases Int.lt_or_gt_of_ne hB with hp | hp
  ·have := h2 hp; omega
  ·have := h1 hp; omega
 rw [zft] at key
 obtain ⟨f, hf⟩ : ∃ f, (fl A B).natAbs = f := ⟨_, rfl⟩
 obtain ⟨b, hb⟩ : ∃ b, B.natAbs = b := ⟨_, rfl⟩
 rw [hf, hb] at key
 rw [hb] at hr
 rw [hf]
 apply Classical.byContradiction
 intro hc
 obtain ⟨k, rfl⟩ : ∃ k, f = A.natAbs + 2 + k := ⟨f - (A.natAbs + 2), by omega⟩
 have h3 : (A.natAbs + 2 + k) * b = A.natAbs * b + 2 * b + k * b := by rw [zfo, zfo]
 have h4 : A.natAbs * 1 ≤ A.natAbs * b := zfk _ (by omega)
 omega
theorem yhf {A B : Int} {n : Nat} (hB : B ≠ 0) (h : (digs A.natAbs).length ≤ n) : (digs (fl A B).natAbs).length ≤ n + 1 := by
 refine ze6 (yae (za1 hB)) ?_
 by_cases hn : n = 0
 ·subst hn
  have : A.natAbs = 0 := (yax _).1 (by omega)
  rw [this]
  exact yay (by omega)
 ·refine yb5 h (ze6 (yay (k := 1) (by omega)) (by omega))
theorem yug (w : World) (s t : Bool) (p q : Option Addr) (n c m d : Nat) (xs ys : List Nat) (h : Sl w p n c xs) (h' : Sl w q m d ys) (hy : val ys ≠ 0) (hl : (0 : Int) < (((digs (val xs % val ys)).length : Nat) : Int)) (hs : n + m + 9 ≤ 35184372088831) :
  Calls Tryz.prog 73 #[.agg #[.bool s, .slice p n c], .agg #[.bool t, .slice q m d]] w (Gives (TWO (IS (.agg #[.bool false, .slice none 0 0])) (IS (.int .i64 20))) w) := by
 refine yan (sl := [(0, (Zx s p n c xs)), (1, (Zx t q m d ys))]) Tryz.func73 rfl Tryz.ntmps73 (by simp) (yad rfl (yfp h) (yad rfl (yfp h') yar)) ?_
 intro a0 S0
 refine wq [.new (.box 29 (Zx s p n c xs)), .new (.box 29 (Zx t q m d ys)), .new (.box 29 zI), V (iV 0)] [.inl 0, .inl 1, .inl 2] [.inl 3] S0 ?_ ?_
 ·exact jj4 (bxA wA (oS 0 0) (ycz ycm)) (bxA wA (oS 1 1) (ycz ycm)) (nwA wA yal) mC
 intro _ a1 _ (S1 : Zt [_,_,_] [_])
 refine wq [V (Part a1 2 1), V (Nx p n c xs), V (Part a1 3 1), V (Nx q m d ys), Fw (THREE (NN (val xs / val ys)) (NN (val xs % val ys)) (IS (.int .i64 0))) w, Fw (THREE (NN (val xs / val ys)) (NN (val xs % val ys)) (IS (.int .i64 0))) w, Fw (NN (val xs / val ys)) w, Fw (NN (val xs % val ys)) w, V (iV 0), Fw (NN (val xs / val ys)) w, Fw (NN (val xs % val ys)) w, V (iV 0)] ur3 [.inl 9, .inl 10, .inl 11, .inr 0] S1 ?_ ?_
 ·exact ⟨⟨⟨⟨jj8 (ptA wA 0 yc4) (plA wA (oO 0 10) 0 rfl rfl (yc5 yfq)) (ptA wA 1 yc4) (plA wA (oO 2 12) 1 rfl rfl (yc5 yfq)) (cc2 wA (qO 1 11 rfl) (qO 3 13 rfl) (yck (ydg _) (ydg _) (yaf _)) (fun w u v h1 h2 => za7 hy (by omega) w u v ((yii (ze5 _)) _ _ h1) ((yii (ze5 _)) _ _ h2))) (mO 4 14) (e30 wA (oO 5 9)) (e31 wA (oO 5 9)), e32 wA (oO 5 9)⟩, mO 6 15⟩, mO 7 16⟩, mO 8 17⟩
 intro _ a2 _ (S2 : Zt [_,_,_] [_,_,_,_])
 refine wp_seq (wp_block ?_)
 refine wq [V (iV 0), kF, kF] ur3 (.inl 2 :: ur4) S2 ?_ ?_
 ·exact jj3 (mS 2 8) (ycj wA (oO 0 19) (yab _) (h := rfl)) (mO 1 20)
 intro _ a3 _ (S3 : Zt [_,_,_] [_,_,_,_,_])
 refine wp_cond_false (S3.bool 0 18 rfl) ?_
 refine wq [Fw (NN (val xs % val ys)) w, V (Is (.int .i64 ((digs (val xs % val ys)).length : Nat))), kT, kT] ur3 [.inl 3, .inr 0, .inr 1, .inr 3, .inr 4] S3 ?_ ?_
 ·exact jj4 (mS 2 7) (ykw rfl wA rfl (oO 0 24) ywu Tryz.underlying27 rfl) (ycy wA (oO 1 25) (yab _) (h := hl)) (mO 2 26)
 intro _ a4 _ (S4 : Zt [_,_,_] [_,_,_,_,_])
 refine wp_cond_true (S4.bool 0 23 rfl) ?_
 refine wq [.val zI, .put (.inl 4) (.box 29 zI), V (iV 20)] ur3 (.inl 2 :: ur4) S4 ?_ ?_
 ·exact jj3 (ybd rfl wA rfl rfl) (seA 2 wA (oO 0 27) yaa yao yao) mC
 intro _ a5 _ (S5 : Zt [_,_,_] [_,_,_,_,_])
 refine wp_ret (inBlkR (thenR ?_))
 exact ydc S5 rfl (yau S5 2 4 rfl yaa yao) (yaw S5 0 5 rfl)
theorem yuh (w : World) (s t : Bool) (p q : Option Addr) (n c m d : Nat) (xs ys : List Nat) (h : Sl w p n c xs) (h' : Sl w q m d ys) (hy : val ys ≠ 0) (hl : (((digs (val xs % val ys)).length : Nat) : Int) ≤ 0) (hs : n + m + 9 ≤ 35184372088831) :
  Calls Tryz.prog 73 #[.agg #[.bool s, .slice p n c], .agg #[.bool t, .slice q m d]] w (Gives (TWO (ZN (sg (s != t) (val xs / val ys))) (IS (.int .i64 0))) w) := by
 refine yan (sl := [(0, (Zx s p n c xs)), (1, (Zx t q m d ys))]) Tryz.func73 rfl Tryz.ntmps73 (by simp) (yad rfl (yfp h) (yad rfl (yfp h') yar)) ?_
 intro a0 S0
 refine wq [.new (.box 29 (Zx s p n c xs)), .new (.box 29 (Zx t q m d ys)), .new (.box 29 zI), V (iV 0)] [.inl 0, .inl 1, .inl 2] [.inl 3] S0 ?_ ?_
 ·exact jj4 (bxA wA (oS 0 0) (ycz ycm)) (bxA wA (oS 1 1) (ycz ycm)) (nwA wA yal) mC
 intro _ a1 _ (S1 : Zt [_,_,_] [_])
 refine wq [V (Part a1 2 1), V (Nx p n c xs), V (Part a1 3 1), V (Nx q m d ys), Fw (THREE (NN (val xs / val ys)) (NN (val xs % val ys)) (IS (.int .i64 0))) w, Fw (THREE (NN (val xs / val ys)) (NN (val xs % val ys)) (IS (.int .i64 0))) w, Fw (NN (val xs / val ys)) w, Fw (NN (val xs % val ys)) w, V (iV 0), Fw (NN (val xs / val ys)) w, Fw (NN (val xs % val ys)) w, V (iV 0)] ur3 [.inl 9, .inl 10, .inl 11, .inr 0] S1 ?_ ?_
 ·exact ⟨⟨⟨⟨jj8 (ptA wA 0 yc4) (plA wA (oO 0 10) 0 rfl rfl (yc5 yfq)) (ptA wA 1 yc4) (plA wA (oO 2 12) 1 rfl rfl (yc5 yfq)) (cc2 wA (qO 1 11 rfl) (qO 3 13 rfl) (yck (ydg _) (ydg _) (yaf _)) (fun w u v h1 h2 => za7 hy (by omega) w u v ((yii (ze5 _)) _ _ h1) ((yii (ze5 _)) _ _ h2))) (mO 4 14) (e30 wA (oO 5 9)) (e31 wA (oO 5 9)), e32 wA (oO 5 9)⟩, mO 6 15⟩, mO 7 16⟩, mO 8 17⟩
 intro _ a2 _ (S2 : Zt [_,_,_] [_,_,_,_])
 refine wp_seq (wp_block ?_)
 refine wq [V (iV 0), kF, kF] ur3 (.inl 2 :: ur4) S2 ?_ ?_
 ·exact jj3 (mS 2 8) (ycj wA (oO 0 19) (yab _) (h := rfl)) (mO 1 20)
 intro _ a3 _ (S3 : Zt [_,_,_] [_,_,_,_,_])
 refine wp_cond_false (S3.bool 0 18 rfl) ?_
 refine wq [Fw (NN (val xs % val ys)) w, V (Is (.int .i64 ((digs (val xs % val ys)).length : Nat))), kF, kF] ur3 [.inl 3, .inr 0, .inr 1, .inr 3, .inr 4] S3 ?_ ?_
 ·exact jj4 (mS 2 7) (ykw rfl wA rfl (oO 0 24) ywu Tryz.underlying27 rfl) (ycr wA (oO 1 25) (yab _) (h := hl)) (mO 2 26)
 intro _ a4 _ (S4 : Zt [_,_,_] [_,_,_,_,_])
 refine wp_cond_false (S4.bool 0 23 rfl) (wp_skip (inBlkN (thenN ?_)))
 refine wq [V (Part a4 2 0), V (Is (.bool s)), V (Part a4 3 0), V (Is (.bool t)), V (Is (.bool (s != t))), Fw (NN (val xs / val ys)) w, Fw (ZN (sg (s != t) (val xs / val ys))) w, .put (.inl 4) (.box 29 ((ZN (sg (s != t) (val xs / val ys))) w.heap.size)), V (iV 0)] ur3 [.inl 8, .inr 0, .inr 1, .inr 3] S4 ?_ ?_
 ·exact ⟨jj8 (ptZ wA 0 ydu) (plA wA (oO 0 28) 0 rfl rfl (ydv yhp)) (ptZ wA 1 ydu) (plA wA (oO 2 30) 1 rfl rfl (ydv yhp)) (yft wA (oO 1 29) (oO 3 31)) (mS 2 6) (yjn rfl wA rfl (oO 4 32) (oO 5 33) rfl (fun args w => by go_simp) yo2) (seA 2 wA (oO 6 34) yaa yao yah), mC⟩
 intro _ a5 _ (S5 : Zt [_,_,_] [_,_,_,_])
 refine wp_ret ?_
 exact ydc S5 rfl (yau S5 2 4 rfl yaa yah) (yaw S5 0 5 rfl)
theorem ytf {s t : Bool} {x y : Nat} (hy : y ≠ 0) : rm (sg s x) (sg t y) = 0 ↔ x % y = 0 := by
 by_cases h0 : x % y = 0
 ·rw [(ydm s t x y hy (Or.inr h0)).2, h0]
  constructor
  ·exact fun _ => rfl
  ·intro _; cases t <;> rfl
 ·have hlt := zf3 x (zfs hy)
  have : rm (sg s x) (sg t y) ≠ 0 := by
   by_cases hst : s = t
   ·rw [(ydm s t x y hy (Or.inl hst)).2]
    intro e
    have := sg_abs t (x % y)
    rw [e] at this
    exact h0 (by simpa using this.symm)
   ·rw [(ykg s t x y hy hst h0).2]
    intro e
    have := sg_abs t (y - x % y)
    rw [e] at this
    simp at this
    omega
  exact ⟨fun e => absurd e this, fun e => absurd e h0⟩
theorem yr1 {A B : Int} {ka kb : Nat} (hB : B ≠ 0) (hr : rm A B ≠ 0) (hk : ka + kb + 9 ≤ 35184372088831) : ∀ w u v, Zv A ka u w → Zv B kb v w → CG 73 #[u, v] w (TWO (IS (.agg #[.bool false, .slice none 0 0])) (IS (.int .i64 20))) := by
 rintro w u v ⟨s, p, n, c, xs, rfl, h, rfl, hn⟩ ⟨t, q, m, d, ys, rfl, h', rfl, hm⟩
 have hy := yz6 (t := t) rfl hB
 have h0 : val xs % val ys ≠ 0 := fun e => hr ((ytf hy).2 e)
 have hl : (digs (val xs % val ys)).length ≠ 0 := fun e => h0 ((yax _).1 e)
 exact yug w s t p q n c m d xs ys h h' hy (by omega) (by omega)
theorem yif {A B : Int} {ka kb : Nat} (hB : B ≠ 0) (hr : rm A B = 0) (hk : ka + kb + 9 ≤ 35184372088831) : ∀ w u v, Zv A ka u w → Zv B kb v w → CG 73 #[u, v] w (TWO (ZN (fl A B)) (IS (.int .i64 0))) := by
 rintro w u v ⟨s, p, n, c, xs, rfl, h, rfl, hn⟩ ⟨t, q, m, d, ys, rfl, h', rfl, hm⟩
 have hy := yz6 (t := t) rfl hB
 have h0 : val xs % val ys = 0 := (ytf hy).1 hr
 rw [(ydm s t (val xs) (val ys) hy (Or.inr h0)).1]
 exact yuh w s t p q n c m d xs ys h h' hy (by rw [h0]; decide) (by omega)
end Go.Proofs.YtbkobojhkhiohaaGreat
