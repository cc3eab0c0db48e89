import Derived.Test.YtdnindaohpdblaaGreatSetQ
set_option linter.all false
namespace Go.Proofs.YtdnindaohpdblaaGreat
open Go Go.RowKit Nt
set_option maxRecDepth 20000
set_option maxHeartbeats 16000000
theorem ysi (w : World) (s t : Bool) (p q : Option Addr) (n c m d : Nat) (xs ys : List Nat) (h : Sl w p n c xs) (h' : Sl w q m d ys) (A B X R : Int) (eA : sg s (val xs) = A) (eB : sg t (val ys) = B) (eX : sg (s != t) (val xs / val ys) = X) (eR : A - X * B = R) (dR : (digs R.natAbs).length ≤ m) (hy : val ys ≠ 0) (hs : n + m + 1 ≤ 35184372088831) (h0 : R.sign = 0) :
  Calls Tryz.prog 89 #[.agg #[.bool s, .slice p n c], .agg #[.bool t, .slice q m d]] w (Gives (TWO (ZN (X)) (ZN (R))) w) := by
 have dA : (digs A.natAbs).length ≤ n := by rw [← eA]; exact yf1 h
 have dB : (digs B.natAbs).length ≤ m := by rw [← eB]; exact yf1 h'
 have dX : (digs X.natAbs).length ≤ n := by rw [← eX, sg_abs]; exact zdv (yaj (zem _ _)) h.dl
 have dXB := ylu dX dB
 have dq : (digs (val xs / val ys)).length ≤ n := zdv (yaj (zem _ _)) h.dl
 refine yan (sl := [(0, (Zx s p n c xs)), (1, (Zx t q m d ys))]) Tryz.func89 rfl Tryz.ntmps89 (by simp) (yai rfl (yd6 h) (yai rfl (yd6 h') yar)) ?_
 intro a0 S0
 refine wq [.new (.box 24 (Zx s p n c xs)), .new (.box 24 (Zx t q m d ys)), .new (.box 24 zI), .new (.box 24 zI)] [.inl 0, .inl 1, .inl 2, .inl 3] [] S0 ?_ ?_
 ·exact jj4 (bxA wA (oS 0 0) (ycs yb8)) (bxA wA (oS 1 1) (ycs yb8)) (nwA wA yak) (nwA wA yak)
 intro _ a1 _ (S1 : Zt [_,_,_,_] [])
 refine wq [V (Part a1 2 1), V (Nx p n c xs), V (Part a1 3 1), V (Nx q m d ys), Fw (THREE (NN (val xs / val ys)) (NN (val xs % val ys)) (IS (.int .i64 0))) w, Fw (THREE (NN (val xs / val ys)) (NN (val xs % val ys)) (IS (.int .i64 0))) w, Fw (NN (val xs / val ys)) w, Fw (NN (val xs % val ys)) w, V (iV 0), Fw (NN (val xs / val ys)) w, Fw (NN (val xs % val ys)) w, V (iV 0)] ur4 [.inl 9] S1 ?_ ?_
 ·exact ⟨⟨⟨⟨jj8 (ptA wA 0 ybt) (plA wA (oO 0 12) 0 rfl rfl (ybu yet)) (ptA wA 1 ybt) (plA wA (oO 2 14) 1 rfl rfl (ybu yet)) (cc2 wA (qO 1 13 rfl) (qO 3 15 rfl) (ybv (yc4 _) (yc4 _) (yaf _)) (fun w u v h1 h2 => yrc hy (by omega) (by omega) w u v ((yg3 (zdu _)) _ _ h1) ((yg3 (zdu _)) _ _ h2))) (mO 4 16) (e30 wA (oO 5 11)) (e31 wA (oO 5 11)), e32 wA (oO 5 11)⟩, mO 6 17⟩, mO 7 18⟩, mO 8 19⟩
 intro _ a2 _ (S2 : Zt [_,_,_,_] [_])
 refine wq [V (Part a2 2 0), V (Is (.bool s)), V (Part a2 3 0), V (Is (.bool t)), V (Is (.bool (s != t))), Fw (NN (val xs / val ys)) w, Fw (ZN (X)) w, .new (.box 24 zI), .put (.inr 7) (.box 24 ((ZN (X)) w.heap.size))] [.inr 0, .inr 1, .inr 2, .inr 3, .inl 7] [] S2 ?_ ?_
 ·exact ⟨jj8 (ptZ wA 0 ydq) (plA wA (oO 0 20) 0 rfl rfl (yds yhn)) (ptZ wA 1 ydq) (plA wA (oO 2 22) 1 rfl rfl (yds yhn)) (yfb wA (oO 1 21) (oO 3 23)) (mS 0 6) (cc2 wA (qO 4 24 rfl) (qO 5 25 rfl) (yae _) (fun w u0 u1 h0 h1 => Gives.cast ((fun w u v h1 h2 => yrb (by omega) w u v h1 ((ykp dq) _ _ h2)) w u0 u1 h0 h1) (by rw [eX]))) (nwA wA yak), puA 7 wA (oO 6 26) yaa yao yad⟩
 intro _ a3 _ (S3 : Zt [_,_,_,_,_] [])
 refine wq [V (Zx s p n c xs), Fw (ZN (X)) w, V (Zx t q m d ys), Fw (ZN (X * B)) w, Fw (ZN (R)) w, .new (.box 24 zI), .put (.inr 5) (.box 24 ((ZN (R)) w.heap.size))] [.inr 0, .inr 1, .inr 2, .inr 3, .inr 4, .inl 5] [] S3 ?_ ?_
 ·repeat' refine And.intro ?_ ?_
  ·trivial
  ·exact loA 0 wA yaa yb8
  ·exact loA 4 wA yaa yad
  ·exact loA 1 wA yaa yb8
  ·exact cc2 wA (qO 1 28 rfl) (qO 2 29 rfl) (yae _) (fun w u v h1 h2 => yrd (by omega) w u v ((yax dX) _ _ h1) ((yec eB (zdu _)) _ _ h2))
  ·exact cc2 wA (qO 0 27 rfl) (qO 3 30 rfl) (yae _) (fun w u0 u1 h0 h1 => Gives.cast ((fun w u v h1 h2 => yog (by omega) (by omega) w u v ((yec eA (zdu _)) _ _ h1) ((yax dXB) _ _ h2)) w u0 u1 h0 h1) (by rw [eR]))
  ·exact nwA wA yak
  ·exact puA 5 wA (oO 4 31) yaa yao yad
 intro _ a4 _ (S4 : Zt [_,_,_,_,_,_] [])
 refine wp_seq ?_
 refine wq [Fw (ZN (R)) w, V (iV ((R).sign)), kF, kF, .off, .off, .off, .off, .off, kF] ur6 [.inl 9] S4 ?_ ?_
 ·exact ⟨⟨jj8 (loA 5 wA yaa yad) (cc1 wA (qO 0 32 rfl) (yaf _) (fun w u h1 => ye5 (by omega) w u ((yax dR) _ _ h1))) (yck wA (oO 1 33) (yab _) (h := h0)) (mO 2 34) (oF 3 35) (oF 3 35) (oF 3 35) (oF 3 35), oF 3 35⟩, pF wA (oO 3 35) (yab _)⟩
 intro _ a5 _ (S5 : Zt [_,_,_,_,_,_] [_])
 refine wp_cond_false (S5.bool 0 41 rfl) (wp_skip (thenN ?_))
 refine wq [Fw (ZN (X)) w, Fw (ZN (R)) w, .put (.inl 4) (.box 24 ((ZN (X)) w.heap.size)), .put (.inl 5) (.box 24 ((ZN (R)) w.heap.size))] ur6 [.inr 0] S5 ?_ ?_
 ·exact jj4 (loA 4 wA yaa yad) (loA 5 wA yaa yad) (seA 2 wA (oO 0 48) yaa yao yad) (seA 3 wA (oO 1 49) yaa yao yad)
 intro _ a6 _ (S6 : Zt [_,_,_,_,_,_] [_])
 refine wp_ret ?_
 exact ycv S6 rfl (yaw S6 2 4 rfl yaa yad) (yaw S6 3 5 rfl yaa yad)
theorem ysj (w : World) (s t : Bool) (p q : Option Addr) (n c m d : Nat) (xs ys : List Nat) (h : Sl w p n c xs) (h' : Sl w q m d ys) (A B X R : Int) (eA : sg s (val xs) = A) (eB : sg t (val ys) = B) (eX : sg (s != t) (val xs / val ys) = X) (eR : A - X * B = R) (dR : (digs R.natAbs).length ≤ m) (hy : val ys ≠ 0) (hs : n + m + 1 ≤ 35184372088831) (h0 : R.sign ≠ 0) (hS : R.sign = B.sign) :
  Calls Tryz.prog 89 #[.agg #[.bool s, .slice p n c], .agg #[.bool t, .slice q m d]] w (Gives (TWO (ZN (X)) (ZN (R))) w) := by
 have dA : (digs A.natAbs).length ≤ n := by rw [← eA]; exact yf1 h
 have dB : (digs B.natAbs).length ≤ m := by rw [← eB]; exact yf1 h'
 have dX : (digs X.natAbs).length ≤ n := by rw [← eX, sg_abs]; exact zdv (yaj (zem _ _)) h.dl
 have dXB := ylu dX dB
 have dq : (digs (val xs / val ys)).length ≤ n := zdv (yaj (zem _ _)) h.dl
 refine yan (sl := [(0, (Zx s p n c xs)), (1, (Zx t q m d ys))]) Tryz.func89 rfl Tryz.ntmps89 (by simp) (yai rfl (yd6 h) (yai rfl (yd6 h') yar)) ?_
 intro a0 S0
 refine wq [.new (.box 24 (Zx s p n c xs)), .new (.box 24 (Zx t q m d ys)), .new (.box 24 zI), .new (.box 24 zI)] [.inl 0, .inl 1, .inl 2, .inl 3] [] S0 ?_ ?_
 ·exact jj4 (bxA wA (oS 0 0) (ycs yb8)) (bxA wA (oS 1 1) (ycs yb8)) (nwA wA yak) (nwA wA yak)
 intro _ a1 _ (S1 : Zt [_,_,_,_] [])
 refine wq [V (Part a1 2 1), V (Nx p n c xs), V (Part a1 3 1), V (Nx q m d ys), Fw (THREE (NN (val xs / val ys)) (NN (val xs % val ys)) (IS (.int .i64 0))) w, Fw (THREE (NN (val xs / val ys)) (NN (val xs % val ys)) (IS (.int .i64 0))) w, Fw (NN (val xs / val ys)) w, Fw (NN (val xs % val ys)) w, V (iV 0), Fw (NN (val xs / val ys)) w, Fw (NN (val xs % val ys)) w, V (iV 0)] ur4 [.inl 9] S1 ?_ ?_
 ·exact ⟨⟨⟨⟨jj8 (ptA wA 0 ybt) (plA wA (oO 0 12) 0 rfl rfl (ybu yet)) (ptA wA 1 ybt) (plA wA (oO 2 14) 1 rfl rfl (ybu yet)) (cc2 wA (qO 1 13 rfl) (qO 3 15 rfl) (ybv (yc4 _) (yc4 _) (yaf _)) (fun w u v h1 h2 => yrc hy (by omega) (by omega) w u v ((yg3 (zdu _)) _ _ h1) ((yg3 (zdu _)) _ _ h2))) (mO 4 16) (e30 wA (oO 5 11)) (e31 wA (oO 5 11)), e32 wA (oO 5 11)⟩, mO 6 17⟩, mO 7 18⟩, mO 8 19⟩
 intro _ a2 _ (S2 : Zt [_,_,_,_] [_])
 refine wq [V (Part a2 2 0), V (Is (.bool s)), V (Part a2 3 0), V (Is (.bool t)), V (Is (.bool (s != t))), Fw (NN (val xs / val ys)) w, Fw (ZN (X)) w, .new (.box 24 zI), .put (.inr 7) (.box 24 ((ZN (X)) w.heap.size))] [.inr 0, .inr 1, .inr 2, .inr 3, .inl 7] [] S2 ?_ ?_
 ·exact ⟨jj8 (ptZ wA 0 ydq) (plA wA (oO 0 20) 0 rfl rfl (yds yhn)) (ptZ wA 1 ydq) (plA wA (oO 2 22) 1 rfl rfl (yds yhn)) (yfb wA (oO 1 21) (oO 3 23)) (mS 0 6) (cc2 wA (qO 4 24 rfl) (qO 5 25 rfl) (yae _) (fun w u0 u1 h0 h1 => Gives.cast ((fun w u v h1 h2 => yrb (by omega) w u v h1 ((ykp dq) _ _ h2)) w u0 u1 h0 h1) (by rw [eX]))) (nwA wA yak), puA 7 wA (oO 6 26) yaa yao yad⟩
 intro _ a3 _ (S3 : Zt [_,_,_,_,_] [])
 refine wq [V (Zx s p n c xs), Fw (ZN (X)) w, V (Zx t q m d ys), Fw (ZN (X * B)) w, Fw (ZN (R)) w, .new (.box 24 zI), .put (.inr 5) (.box 24 ((ZN (R)) w.heap.size))] [.inr 0, .inr 1, .inr 2, .inr 3, .inr 4, .inl 5] [] S3 ?_ ?_
 ·repeat' refine And.intro ?_ ?_
  ·trivial
  ·exact loA 0 wA yaa yb8
  ·exact loA 4 wA yaa yad
  ·exact loA 1 wA yaa yb8
  ·exact cc2 wA (qO 1 28 rfl) (qO 2 29 rfl) (yae _) (fun w u v h1 h2 => yrd (by omega) w u v ((yax dX) _ _ h1) ((yec eB (zdu _)) _ _ h2))
  ·exact cc2 wA (qO 0 27 rfl) (qO 3 30 rfl) (yae _) (fun w u0 u1 h0 h1 => Gives.cast ((fun w u v h1 h2 => yog (by omega) (by omega) w u v ((yec eA (zdu _)) _ _ h1) ((yax dXB) _ _ h2)) w u0 u1 h0 h1) (by rw [eR]))
  ·exact nwA wA yak
  ·exact puA 5 wA (oO 4 31) yaa yao yad
 intro _ a4 _ (S4 : Zt [_,_,_,_,_,_] [])
 refine wp_seq ?_
 refine wq [Fw (ZN (R)) w, V (iV ((R).sign)), kT, kT, Fw (ZN (R)) w, V (iV ((R).sign)), V (Zx t q m d ys), V (iV ((B).sign)), kF, kF] ur6 [.inl 9] S4 ?_ ?_
 ·exact ⟨⟨jj8 (loA 5 wA yaa yad) (cc1 wA (qO 0 32 rfl) (yaf _) (fun w u h1 => ye5 (by omega) w u ((yax dR) _ _ h1))) (yda wA (oO 1 33) (yab _) (h := h0)) (mO 2 34) (loA 5 (wI 3 35) yaa yad) (cc1 (wI 3 35) (qO 4 36 rfl) (yaf _) (fun w u h1 => ye5 (by omega) w u ((yax dR) _ _ h1))) (loA 1 (wI 3 35) yaa yb8) (cc1 (wI 3 35) (qO 6 38 rfl) (yaf _) (fun w u h1 => ye5 (by omega) w u ((yec eB (zdu _)) _ _ h1))), yck (wI 3 35) (oO 5 37) (oO 7 39) (h := hS)⟩, pT wA (oO 3 35) (oO 8 40)⟩
 intro _ a5 _ (S5 : Zt [_,_,_,_,_,_] [_])
 refine wp_cond_false (S5.bool 0 41 rfl) (wp_skip (thenN ?_))
 refine wq [Fw (ZN (X)) w, Fw (ZN (R)) w, .put (.inl 4) (.box 24 ((ZN (X)) w.heap.size)), .put (.inl 5) (.box 24 ((ZN (R)) w.heap.size))] ur6 [.inr 0] S5 ?_ ?_
 ·exact jj4 (loA 4 wA yaa yad) (loA 5 wA yaa yad) (seA 2 wA (oO 0 48) yaa yao yad) (seA 3 wA (oO 1 49) yaa yao yad)
 intro _ a6 _ (S6 : Zt [_,_,_,_,_,_] [_])
 refine wp_ret ?_
 exact ycv S6 rfl (yaw S6 2 4 rfl yaa yad) (yaw S6 3 5 rfl yaa yad)
theorem ysk (w : World) (s t : Bool) (p q : Option Addr) (n c m d : Nat) (xs ys : List Nat) (h : Sl w p n c xs) (h' : Sl w q m d ys) (A B X R : Int) (eA : sg s (val xs) = A) (eB : sg t (val ys) = B) (eX : sg (s != t) (val xs / val ys) = X) (eR : A - X * B = R) (dR : (digs R.natAbs).length ≤ m) (hy : val ys ≠ 0) (hs : n + m + 1 ≤ 35184372088831) (h0 : R.sign ≠ 0) (hS : R.sign ≠ B.sign) :
  Calls Tryz.prog 89 #[.agg #[.bool s, .slice p n c], .agg #[.bool t, .slice q m d]] w (Gives (TWO (ZN (X - 1)) (ZN (R + B))) w) := by
 have dA : (digs A.natAbs).length ≤ n := by rw [← eA]; exact yf1 h
 have dB : (digs B.natAbs).length ≤ m := by rw [← eB]; exact yf1 h'
 have dX : (digs X.natAbs).length ≤ n := by rw [← eX, sg_abs]; exact zdv (yaj (zem _ _)) h.dl
 have dXB := ylu dX dB
 have dq : (digs (val xs / val ys)).length ≤ n := zdv (yaj (zem _ _)) h.dl
 have d1 : (digs (1 : Int).natAbs).length ≤ 1 := ygc (by decide)
 refine yan (sl := [(0, (Zx s p n c xs)), (1, (Zx t q m d ys))]) Tryz.func89 rfl Tryz.ntmps89 (by simp) (yai rfl (yd6 h) (yai rfl (yd6 h') yar)) ?_
 intro a0 S0
 refine wq [.new (.box 24 (Zx s p n c xs)), .new (.box 24 (Zx t q m d ys)), .new (.box 24 zI), .new (.box 24 zI)] [.inl 0, .inl 1, .inl 2, .inl 3] [] S0 ?_ ?_
 ·exact jj4 (bxA wA (oS 0 0) (ycs yb8)) (bxA wA (oS 1 1) (ycs yb8)) (nwA wA yak) (nwA wA yak)
 intro _ a1 _ (S1 : Zt [_,_,_,_] [])
 refine wq [V (Part a1 2 1), V (Nx p n c xs), V (Part a1 3 1), V (Nx q m d ys), Fw (THREE (NN (val xs / val ys)) (NN (val xs % val ys)) (IS (.int .i64 0))) w, Fw (THREE (NN (val xs / val ys)) (NN (val xs % val ys)) (IS (.int .i64 0))) w, Fw (NN (val xs / val ys)) w, Fw (NN (val xs % val ys)) w, V (iV 0), Fw (NN (val xs / val ys)) w, Fw (NN (val xs % val ys)) w, V (iV 0)] ur4 [.inl 9] S1 ?_ ?_
 ·exact ⟨⟨⟨⟨jj8 (ptA wA 0 ybt) (plA wA (oO 0 12) 0 rfl rfl (ybu yet)) (ptA wA 1 ybt) (plA wA (oO 2 14) 1 rfl rfl (ybu yet)) (cc2 wA (qO 1 13 rfl) (qO 3 15 rfl) (ybv (yc4 _) (yc4 _) (yaf _)) (fun w u v h1 h2 => yrc hy (by omega) (by omega) w u v ((yg3 (zdu _)) _ _ h1) ((yg3 (zdu _)) _ _ h2))) (mO 4 16) (e30 wA (oO 5 11)) (e31 wA (oO 5 11)), e32 wA (oO 5 11)⟩, mO 6 17⟩, mO 7 18⟩, mO 8 19⟩
 intro _ a2 _ (S2 : Zt [_,_,_,_] [_])
 refine wq [V (Part a2 2 0), V (Is (.bool s)), V (Part a2 3 0), V (Is (.bool t)), V (Is (.bool (s != t))), Fw (NN (val xs / val ys)) w, Fw (ZN (X)) w, .new (.box 24 zI), .put (.inr 7) (.box 24 ((ZN (X)) w.heap.size))] [.inr 0, .inr 1, .inr 2, .inr 3, .inl 7] [] S2 ?_ ?_
 ·exact ⟨jj8 (ptZ wA 0 ydq) (plA wA (oO 0 20) 0 rfl rfl (yds yhn)) (ptZ wA 1 ydq) (plA wA (oO 2 22) 1 rfl rfl (yds yhn)) (yfb wA (oO 1 21) (oO 3 23)) (mS 0 6) (cc2 wA (qO 4 24 rfl) (qO 5 25 rfl) (yae _) (fun w u0 u1 h0 h1 => Gives.cast ((fun w u v h1 h2 => yrb (by omega) w u v h1 ((ykp dq) _ _ h2)) w u0 u1 h0 h1) (by rw [eX]))) (nwA wA yak), puA 7 wA (oO 6 26) yaa yao yad⟩
 intro _ a3 _ (S3 : Zt [_,_,_,_,_] [])
 refine wq [V (Zx s p n c xs), Fw (ZN (X)) w, V (Zx t q m d ys), Fw (ZN (X * B)) w, Fw (ZN (R)) w, .new (.box 24 zI), .put (.inr 5) (.box 24 ((ZN (R)) w.heap.size))] [.inr 0, .inr 1, .inr 2, .inr 3, .inr 4, .inl 5] [] S3 ?_ ?_
 ·repeat' refine And.intro ?_ ?_
  ·trivial
  ·exact loA 0 wA yaa yb8
  ·exact loA 4 wA yaa yad
  ·exact loA 1 wA yaa yb8
  ·exact cc2 wA (qO 1 28 rfl) (qO 2 29 rfl) (yae _) (fun w u v h1 h2 => yrd (by omega) w u v ((yax dX) _ _ h1) ((yec eB (zdu _)) _ _ h2))
  ·exact cc2 wA (qO 0 27 rfl) (qO 3 30 rfl) (yae _) (fun w u0 u1 h0 h1 => Gives.cast ((fun w u v h1 h2 => yog (by omega) (by omega) w u v ((yec eA (zdu _)) _ _ h1) ((yax dXB) _ _ h2)) w u0 u1 h0 h1) (by rw [eR]))
  ·exact nwA wA yak
  ·exact puA 5 wA (oO 4 31) yaa yao yad
 intro _ a4 _ (S4 : Zt [_,_,_,_,_,_] [])
 refine wp_seq ?_
 refine wq [Fw (ZN (R)) w, V (iV ((R).sign)), kT, kT, Fw (ZN (R)) w, V (iV ((R).sign)), V (Zx t q m d ys), V (iV ((B).sign)), kT, kT] ur6 [.inl 9] S4 ?_ ?_
 ·exact ⟨⟨jj8 (loA 5 wA yaa yad) (cc1 wA (qO 0 32 rfl) (yaf _) (fun w u h1 => ye5 (by omega) w u ((yax dR) _ _ h1))) (yda wA (oO 1 33) (yab _) (h := h0)) (mO 2 34) (loA 5 (wI 3 35) yaa yad) (cc1 (wI 3 35) (qO 4 36 rfl) (yaf _) (fun w u h1 => ye5 (by omega) w u ((yax dR) _ _ h1))) (loA 1 (wI 3 35) yaa yb8) (cc1 (wI 3 35) (qO 6 38 rfl) (yaf _) (fun w u h1 => ye5 (by omega) w u ((yec eB (zdu _)) _ _ h1))), yda (wI 3 35) (oO 5 37) (oO 7 39) (h := hS)⟩, pT wA (oO 3 35) (oO 8 40)⟩
 intro _ a5 _ (S5 : Zt [_,_,_,_,_,_] [_])
 refine wp_cond_true (S5.bool 0 41 rfl) ?_
 refine wq [Fw (ZN (X)) w, Fw (ZN (1)) w, Fw (ZN (X - 1)) w, .put (.inl 9) (.box 24 ((ZN (X - 1)) w.heap.size))] ur6 [.inr 0] S5 ?_ ?_
 ·exact jj4 (loA 4 wA yaa yad) (cc1 wA (yab _) (yae _) (yki 1 (by omega) (by omega))) (cc2 wA (qO 0 42 rfl) (qO 1 43 rfl) (yae _) (fun w u v h1 h2 => yog (by omega) (by omega) w u v ((yax dX) _ _ h1) ((yax d1) _ _ h2))) (seA 4 wA (oO 2 44) yaa yad yad)
 intro _ a6 _ (S6 : Zt [_,_,_,_,_,_] [_])
 refine wr [Fw (ZN (R)) w, V (Zx t q m d ys), Fw (ZN (R + B)) w, .put (.inl 10) (.box 24 ((ZN (R + B)) w.heap.size))] ur6 [.inr 0] S6 ?_ ?_
 ·exact jj4 (loA 5 wA yaa yad) (loA 1 wA yaa yb8) (cc2 wA (qO 0 45 rfl) (qO 1 46 rfl) (yae _) (fun w u v h1 h2 => yic (by omega) (by omega) w u v ((yax dR) _ _ h1) ((yec eB (zdu _)) _ _ h2))) (seA 5 wA (oO 2 47) yaa yad yad)
 intro _ a7 _ (S7 : Zt [_,_,_,_,_,_] [_])
 refine thenN ?_
 refine wq [Fw (ZN (X - 1)) w, Fw (ZN (R + B)) w, .put (.inl 4) (.box 24 ((ZN (X - 1)) w.heap.size)), .put (.inl 5) (.box 24 ((ZN (R + B)) w.heap.size))] ur6 [.inr 0] S7 ?_ ?_
 ·exact jj4 (loA 4 wA yaa yad) (loA 5 wA yaa yad) (seA 2 wA (oO 0 48) yaa yao yad) (seA 3 wA (oO 1 49) yaa yao yad)
 intro _ a8 _ (S8 : Zt [_,_,_,_,_,_] [_])
 refine wp_ret ?_
 exact ycv S8 rfl (yaw S8 2 4 rfl yaa yad) (yaw S8 3 5 rfl yaa yad)
theorem yy4 (s t : Bool) (x y : Nat) : sg s x - sg (s != t) (x / y) * sg t y = sg s (x % y) := by
 have e : ((y * (x / y) + x % y : Nat) : Int) = (x : Int) := by rw [zep]
 rw [zf2, zed] at e
 obtain ⟨q, hq⟩ : ∃ q, x / y = q := ⟨_, rfl⟩
 obtain ⟨r, hr⟩ : ∃ r, x % y = r := ⟨_, rfl⟩
 rw [hq, hr] at e ⊢
 rw [zfv] at e
 cases s <;> cases t <;> simp [sg, Int.neg_mul, zha] <;> omega
theorem yle (s : Bool) (r : Nat) : (sg s r).sign = 0 ↔ r = 0 := by
 rw [zfz]
 unfold sg
 split <;> omega
theorem yjv {s t : Bool} {r y : Nat} (hr : r ≠ 0) (hy : y ≠ 0) : (sg s r).sign = (sg t y).sign ↔ s = t := by
 have h1 : ∀ (b : Bool) (k : Nat), k ≠ 0 → (sg b k).sign = if b then -1 else 1 := by
  intro b k hk
  unfold sg
  cases b
  ·simp only [zf4, if_false]; exact zes (by omega)
  ·simp only [if_true]; exact zen (by omega)
 rw [h1 s r hr, h1 t y hy]
 cases s <;> cases t <;> simp
theorem yug {A B : Int} {ka kb : Nat} (hB : B ≠ 0) (hk : ka + kb + 1 ≤ 35184372088831) : ∀ w u v, Zv A ka u w → Zv B kb v w → CG 89 #[u, v] w (TWO (ZN (fl A B)) (ZN (rm A B))) := by
 rintro w u v ⟨s, p, n, c, xs, rfl, h, rfl, hn⟩ ⟨t, q, m, d, ys, rfl, h', rfl, hm⟩
 have hy : val ys ≠ 0 := fun e => hB (by rw [e]; cases t <;> rfl)
 have hR := yy4 s t (val xs) (val ys)
 have hlt := zer (val xs) (zee hy)
 have dR : (digs (sg s (val xs % val ys)).natAbs).length ≤ m := by rw [sg_abs]; exact zdv (yaj (zff hlt)) h'.dl
 by_cases h0 : val xs % val ys = 0
 ·obtain ⟨e1, e2⟩ := ydh s t (val xs) (val ys) hy (Or.inr h0)
  refine Gives.cast (ysi w s t p q n c m d xs ys h h' _ _ _ _ rfl rfl rfl hR dR hy (by omega) ((yle s _).2 h0)) ?_
  rw [← e1]
  unfold rm
  rw [e1, hR]
 ·by_cases hst : s = t
  ·obtain ⟨e1, e2⟩ := ydh s t (val xs) (val ys) hy (Or.inl hst)
   refine Gives.cast (ysj w s t p q n c m d xs ys h h' _ _ _ _ rfl rfl rfl hR dR hy (by omega) (fun e => h0 ((yle s _).1 e)) ((yjv h0 hy).2 hst)) ?_
   rw [← e1]
   unfold rm
   rw [e1, hR]
  ·obtain ⟨e1, e2⟩ := ykh s t (val xs) (val ys) hy hst h0
   refine Gives.cast (ysk w s t p q n c m d xs ys h h' _ _ _ _ rfl rfl rfl hR dR hy (by omega) (fun e => h0 ((yle s _).1 e)) (fun e => hst ((yjv h0 hy).1 e))) ?_
   have f1 : sg (s != t) (val xs / val ys) - 1 = fl (sg s (val xs)) (sg t (val ys)) := by
    rw [e1]
    have : (s != t) = true := by simpa using hst
    rw [this]
    simp only [sg, if_true]
    omega
   rw [f1]
   unfold rm
   rw [← f1, ← hR, Int.sub_mul]
   congr 2
   omega
theorem zbg {A B : Int} (hB : B ≠ 0) : (rm A B).natAbs ≤ B.natAbs := by
 unfold rm fl
 by_cases hp : 0 < B
 ·rw [if_pos hp]
  have h1 := zhf A (by omega : B ≠ 0)
  have h2 := zgw A hp
  have h3 := zg2 A B
  rw [zfv] at h3
  omega
 ·rw [if_neg hp]
  have h1 := zhf (-A) (by omega : -B ≠ 0)
  have h2 := zgw (-A) (by omega : 0 < -B)
  have h3 := zg2 (-A) (-B)
  rw [zfv, zha] at h3
  omega
theorem yzp {t : Bool} {ys : List Nat} {B : Int} (e : sg t (val ys) = B) (hB : B ≠ 0) : val ys ≠ 0 := fun h => hB (by rw [← e, h]; cases t <;> rfl)
theorem ygg {A B : Int} {ka kb : Nat} (hB : B ≠ 0) (hk : ka + 1 ≤ 70368744177663) (hk' : kb ≤ 70368744177663) : ∀ w u v, Zv A ka u w → Zv B kb v w → CG 108 #[u, v] w (THREE (ZN (fl A B)) (ZN (rm A B)) (IS (.int .i64 0))) := by
 rintro w u v ⟨s, p, n, c, xs, rfl, h, rfl, hn⟩ ⟨t, q, m, d, ys, rfl, h', rfl, hm⟩
 refine (yvu w s t p q n c m d xs ys h h' (yzp rfl hB) (by omega) (by omega)).mono ?_
 rintro e w' ⟨bq, Lq, Dq, rq, cq, br, Lr, Dr, rr, cr, rfl, hb, S1, S2, N1, N2, _, _, f1, f2⟩
 exact ⟨_, rfl, hb, _, _, _, rfl, yus N1.out S1.out f1.out, yus N2.out S2.out f2.out, rfl⟩
theorem ygs {A B : Int} (hB : B ≠ 0) : A = fl A B * B + rm A B ∧ (0 < B → 0 ≤ rm A B ∧ rm A B < B) ∧ (B < 0 → B < rm A B ∧ rm A B ≤ 0) := by
 unfold rm
 refine ⟨by omega, fun hp => ?_, fun hp => ?_⟩
 ·unfold fl
  rw [if_pos hp]
  have h1 := zhf A (by omega : B ≠ 0)
  have h2 := zgw A hp
  have h3 := zg2 A B
  rw [zfv] at h3
  omega
 ·unfold fl
  rw [if_neg (by omega)]
  have h1 := zhf (-A) (by omega : -B ≠ 0)
  have h2 := zgw (-A) (by omega : 0 < -B)
  have h3 := zg2 (-A) (-B)
  rw [zfv, zha] at h3
  omega
def nr (A B : Int) : Int := fl (2 * A + B) (2 * B)
theorem yyh {A B : Int} (hB : B ≠ 0) (h : B.natAbs ≤ 2 * (rm A B).natAbs) : fl A B + 1 = nr A B := by
 obtain ⟨e, h1, h2⟩ := ygs (A := A) hB
 refine (yeg (r := 2 * rm A B - B) (by omega) ?_ (fun hp => ?_) (fun hp => ?_)).1.symm
 ·rw [Int.add_mul]
  have : fl A B * (2 * B) = 2 * (fl A B * B) := by rw [← zg4, zfv (fl A B) 2, zg4]
  omega
 ·have := h1 (by omega); omega
 ·have := h2 (by omega); omega
theorem yrt {A B : Int} (hB : B ≠ 0) (h : 2 * (rm A B).natAbs < B.natAbs) : fl A B = nr A B := by
 obtain ⟨e, h1, h2⟩ := ygs (A := A) hB
 refine (yeg (r := 2 * rm A B + B) (by omega) ?_ (fun hp => ?_) (fun hp => ?_)).1.symm
 ·have : fl A B * (2 * B) = 2 * (fl A B * B) := by rw [← zg4, zfv (fl A B) 2, zg4]
  omega
 ·have := h1 (by omega); omega
 ·have := h2 (by omega); omega
theorem yt2 {x y : Nat} (h : y ≤ x) : 0 ≤ cmpN x y := by unfold cmpN; split; omega; split <;> omega
theorem yt3 {x y : Nat} (h : x < y) : cmpN x y < 0 := by unfold cmpN; rw [if_pos h]; omega
theorem yz7 {A B : Int} (hB : B ≠ 0) : (fl A B).natAbs ≤ A.natAbs + 1 := by
 obtain ⟨e, h1, h2⟩ := ygs (A := A) hB
 have key : (fl A B * B).natAbs ≤ A.natAbs + (rm A B).natAbs := by omega
 have hr : (rm A B).natAbs < B.natAbs := by
  rcases Int.lt_or_gt_of_ne hB with hp | hp
  ·have := h2 hp; omega
  ·have := h1 hp; omega
 rw [zeq] at key
 obtain ⟨f, hf⟩ : ∃ f, (fl A B).natAbs = f := ⟨_, rfl⟩
 obtain ⟨b, hb⟩ : ∃ b, B.natAbs = b := ⟨_, rfl⟩
 rw [hf, hb] at key
 rw [hb] at hr
 rw [hf]
 apply Classical.byContradiction
 intro hc
 obtain ⟨k, rfl⟩ : ∃ k, f = A.natAbs + 2 + k := ⟨f - (A.natAbs + 2), by omega⟩
 have h3 : (A.natAbs + 2 + k) * b = A.natAbs * b + 2 * b + k * b := by rw [zef, zef]
 have h4 : A.natAbs * 1 ≤ A.natAbs * b := zd3 _ (by omega)
 omega
theorem yib {A B : Int} {n : Nat} (hB : B ≠ 0) (h : (digs A.natAbs).length ≤ n) : (digs (fl A B).natAbs).length ≤ n + 1 := by
 refine zdv (yaj (yz7 hB)) ?_
 by_cases hn : n = 0
 ·subst hn
  have : A.natAbs = 0 := (yat _).1 (by omega)
  rw [this]
  exact yam (by omega)
 ·refine yct h (zdv (yam (k := 1) (by omega)) (by omega))
theorem yvv (w : World) (s t : Bool) (p q : Option Addr) (n c m d : Nat) (xs ys : List Nat) (h : Sl w p n c xs) (h' : Sl w q m d ys) (A B : Int) (eA : sg s (val xs) = A) (eB : sg t (val ys) = B) (hB : B ≠ 0) (hc : 0 ≤ cmpN ((rm A B).natAbs + (rm A B).natAbs) (val ys)) (hs : n + m + 9 ≤ 35184372088831) :
  Calls Tryz.prog 83 #[.agg #[.bool s, .slice p n c], .agg #[.bool t, .slice q m d]] w (Gives (TWO (ZN (fl A B + 1)) (IS (.int .i64 0))) w) := by
 have dA : (digs A.natAbs).length ≤ n := by rw [← eA]; exact yf1 h
 have dB : (digs B.natAbs).length ≤ m := by rw [← eB]; exact yf1 h'
 have dR : (digs (rm A B).natAbs).length ≤ m := zdv (yaj (zbg hB)) dB
 have dF : (digs (fl A B).natAbs).length ≤ n + 1 := yib hB dA
 have d1 : (digs (1 : Int).natAbs).length ≤ 1 := ygc (by decide)
 refine yan (sl := [(0, (Zx s p n c xs)), (1, (Zx t q m d ys))]) Tryz.func83 rfl Tryz.ntmps83 (by simp) (yai rfl (yd6 h) (yai rfl (yd6 h') yar)) ?_
 intro a0 S0
 refine wq [.new (.box 24 (Zx s p n c xs)), .new (.box 24 (Zx t q m d ys)), .new (.box 24 zI), V (iV 0)] [.inl 0, .inl 1, .inl 2] [.inl 3] S0 ?_ ?_
 ·exact jj4 (bxA wA (oS 0 0) (ycs yb8)) (bxA wA (oS 1 1) (ycs yb8)) (nwA wA yak) mC
 intro _ a1 _ (S1 : Zt [_,_,_] [_])
 refine wq [V (Zx s p n c xs), V (Zx t q m d ys), Fw (THREE (ZN (fl A B)) (ZN (rm A B)) (IS (.int .i64 0))) w, Fw (THREE (ZN (fl A B)) (ZN (rm A B)) (IS (.int .i64 0))) w, Fw (ZN (fl A B)) w, Fw (ZN (rm A B)) w, V (iV 0), .new (.box 24 zI), .new (.box 24 zI), .put (.inr 7) (.box 24 ((ZN (fl A B)) w.heap.size)), .put (.inr 8) (.box 24 ((ZN (rm A B)) w.heap.size)), V (iV 0)] [.inr 0, .inr 1, .inr 2, .inl 7, .inl 8] [.inl 11, .inr 0] S1 ?_ ?_
 ·exact ⟨⟨⟨⟨jj8 (loA 0 wA yaa yb8) (loA 1 wA yaa yb8) (cc2 wA (qO 0 10 rfl) (qO 1 11 rfl) (ybv (yae _) (yae _) (yaf _)) (fun w u v h1 h2 => ygg hB (by omega) (by omega) w u v ((yec eA (zdu _)) _ _ h1) ((yec eB (zdu _)) _ _ h2))) (mO 2 12) (e30 wA (oO 3 9)) (e31 wA (oO 3 9)) (e32 wA (oO 3 9)) (nwA wA yak), nwA wA yak⟩, puA 7 wA (oO 4 13) yaa yao yad⟩, puA 8 wA (oO 5 14) yaa yao yad⟩, mO 6 15⟩
 intro _ a2 _ (S2 : Zt [_,_,_,_,_] [_,_])
 refine wp_seq ?_
 refine wq [V (iV 0), kF] ur5 (.inl 1 :: ur2) S2 ?_ ?_
 ·exact jj2 (mS 0 8) (yc3 wA (oO 0 16) (yab _) (h := rfl))
 intro _ a3 _ (S3 : Zt [_,_,_,_,_] [_,_,_])
 refine wp_cond_false (S3.bool 0 17 rfl) (wp_skip (thenN (wp_seq ?_)))
 refine wq [V (Part a3 7 1), Fw (NN ((rm A B).natAbs)) w, V (Part a3 7 1), Fw (NN ((rm A B).natAbs)) w, Fw (NN (((rm A B).natAbs) + ((rm A B).natAbs))) w, V (Part a3 3 1), V (Nx q m d ys), V (Is (.int .i64 (cmpN (((rm A B).natAbs) + ((rm A B).natAbs)) (val ys)))), kT] ur5 (.inl 8 :: ur3) S3 ?_ ?_
 ·exact ⟨jj8 (ptA wA 4 ybt) (plA wA (oO 0 20) 4 rfl rfl (ybu ypj)) (ptA wA 4 ybt) (plA wA (oO 2 22) 4 rfl rfl (ybu ypj)) (cc2 wA (qO 1 21 rfl) (qO 3 23 rfl) (yc4 _) (fun w u v h1 h2 => yz9 (by omega) (by omega) w u v ((ykp dR) _ _ h1) ((ykp dR) _ _ h2))) (ptA wA 1 ybt) (plA wA (oO 5 25) 1 rfl rfl (ybu yet)) (cc2 wA (qO 4 24 rfl) (qO 6 26 rfl) (yaf _) (fun w u v h1 h2 => zaa  w u v ((ykp (zdu _)) _ _ h1) ((yg3 (zdu _)) _ _ h2))), yh2 wA (oO 7 27) (yab _) (h := hc)⟩
 intro _ a4 _ (S4 : Zt [_,_,_,_,_] [_,_,_,_])
 refine wp_cond_true (S4.bool 0 28 rfl) ?_
 refine wr [Fw (ZN (fl A B)) w, Fw (ZN (1)) w, Fw (ZN ((fl A B) + 1)) w, .put (.inl 6) (.box 24 ((ZN ((fl A B) + 1)) w.heap.size))] ur5 ur4 S4 ?_ ?_
 ·exact jj4 (loA 3 wA yaa yad) (cc1 wA (yab _) (yae _) (yi6 1 (by omega) (by omega))) (cc2 wA (qO 0 29 rfl) (qO 1 30 rfl) (yae _) (fun w u v h1 h2 => yjc (by omega) (by omega) w u v ((yax dF) _ _ h1) ((yax d1) _ _ h2))) (seA 3 wA (oO 2 31) yaa yad yad)
 intro _ a5 _ (S5 : Zt [_,_,_,_,_] [_,_,_,_])
 refine thenN ?_
 refine wq [Fw (ZN ((fl A B) + 1)) w, .put (.inl 4) (.box 24 ((ZN ((fl A B) + 1)) w.heap.size)), V (iV 0)] ur5 (.inl 2 :: ur3) S5 ?_ ?_
 ·exact jj3 (loA 3 wA yaa yad) (seA 2 wA (oO 0 32) yaa yao yad) mC
 intro _ a6 _ (S6 : Zt [_,_,_,_,_] [_,_,_,_])
 refine wp_ret ?_
 exact ycv S6 rfl (yaw S6 2 4 rfl yaa yad) (ya8 S6 0 5 rfl)
theorem yvw (w : World) (s t : Bool) (p q : Option Addr) (n c m d : Nat) (xs ys : List Nat) (h : Sl w p n c xs) (h' : Sl w q m d ys) (A B : Int) (eA : sg s (val xs) = A) (eB : sg t (val ys) = B) (hB : B ≠ 0) (hc : cmpN ((rm A B).natAbs + (rm A B).natAbs) (val ys) < 0) (hs : n + m + 9 ≤ 35184372088831) :
  Calls Tryz.prog 83 #[.agg #[.bool s, .slice p n c], .agg #[.bool t, .slice q m d]] w (Gives (TWO (ZN (fl A B)) (IS (.int .i64 0))) w) := by
 have dA : (digs A.natAbs).length ≤ n := by rw [← eA]; exact yf1 h
 have dB : (digs B.natAbs).length ≤ m := by rw [← eB]; exact yf1 h'
 have dR : (digs (rm A B).natAbs).length ≤ m := zdv (yaj (zbg hB)) dB
 have dF : (digs (fl A B).natAbs).length ≤ n + 1 := yib hB dA
 have d1 : (digs (1 : Int).natAbs).length ≤ 1 := ygc (by decide)
 refine yan (sl := [(0, (Zx s p n c xs)), (1, (Zx t q m d ys))]) Tryz.func83 rfl Tryz.ntmps83 (by simp) (yai rfl (yd6 h) (yai rfl (yd6 h') yar)) ?_
 intro a0 S0
 refine wq [.new (.box 24 (Zx s p n c xs)), .new (.box 24 (Zx t q m d ys)), .new (.box 24 zI), V (iV 0)] [.inl 0, .inl 1, .inl 2] [.inl 3] S0 ?_ ?_
 ·exact jj4 (bxA wA (oS 0 0) (ycs yb8)) (bxA wA (oS 1 1) (ycs yb8)) (nwA wA yak) mC
 intro _ a1 _ (S1 : Zt [_,_,_] [_])
 refine wq [V (Zx s p n c xs), V (Zx t q m d ys), Fw (THREE (ZN (fl A B)) (ZN (rm A B)) (IS (.int .i64 0))) w, Fw (THREE (ZN (fl A B)) (ZN (rm A B)) (IS (.int .i64 0))) w, Fw (ZN (fl A B)) w, Fw (ZN (rm A B)) w, V (iV 0), .new (.box 24 zI), .new (.box 24 zI), .put (.inr 7) (.box 24 ((ZN (fl A B)) w.heap.size)), .put (.inr 8) (.box 24 ((ZN (rm A B)) w.heap.size)), V (iV 0)] [.inr 0, .inr 1, .inr 2, .inl 7, .inl 8] [.inl 11, .inr 0] S1 ?_ ?_
 ·exact ⟨⟨⟨⟨jj8 (loA 0 wA yaa yb8) (loA 1 wA yaa yb8) (cc2 wA (qO 0 10 rfl) (qO 1 11 rfl) (ybv (yae _) (yae _) (yaf _)) (fun w u v h1 h2 => ygg hB (by omega) (by omega) w u v ((yec eA (zdu _)) _ _ h1) ((yec eB (zdu _)) _ _ h2))) (mO 2 12) (e30 wA (oO 3 9)) (e31 wA (oO 3 9)) (e32 wA (oO 3 9)) (nwA wA yak), nwA wA yak⟩, puA 7 wA (oO 4 13) yaa yao yad⟩, puA 8 wA (oO 5 14) yaa yao yad⟩, mO 6 15⟩
 intro _ a2 _ (S2 : Zt [_,_,_,_,_] [_,_])
 refine wp_seq ?_
 refine wq [V (iV 0), kF] ur5 (.inl 1 :: ur2) S2 ?_ ?_
 ·exact jj2 (mS 0 8) (yc3 wA (oO 0 16) (yab _) (h := rfl))
 intro _ a3 _ (S3 : Zt [_,_,_,_,_] [_,_,_])
 refine wp_cond_false (S3.bool 0 17 rfl) (wp_skip (thenN (wp_seq ?_)))
 refine wq [V (Part a3 7 1), Fw (NN ((rm A B).natAbs)) w, V (Part a3 7 1), Fw (NN ((rm A B).natAbs)) w, Fw (NN (((rm A B).natAbs) + ((rm A B).natAbs))) w, V (Part a3 3 1), V (Nx q m d ys), V (Is (.int .i64 (cmpN (((rm A B).natAbs) + ((rm A B).natAbs)) (val ys)))), kF] ur5 (.inl 8 :: ur3) S3 ?_ ?_
 ·exact ⟨jj8 (ptA wA 4 ybt) (plA wA (oO 0 20) 4 rfl rfl (ybu ypj)) (ptA wA 4 ybt) (plA wA (oO 2 22) 4 rfl rfl (ybu ypj)) (cc2 wA (qO 1 21 rfl) (qO 3 23 rfl) (yc4 _) (fun w u v h1 h2 => yz9 (by omega) (by omega) w u v ((ykp dR) _ _ h1) ((ykp dR) _ _ h2))) (ptA wA 1 ybt) (plA wA (oO 5 25) 1 rfl rfl (ybu yet)) (cc2 wA (qO 4 24 rfl) (qO 6 26 rfl) (yaf _) (fun w u v h1 h2 => zaa  w u v ((ykp (zdu _)) _ _ h1) ((yg3 (zdu _)) _ _ h2))), yfu wA (oO 7 27) (yab _) (h := hc)⟩
 intro _ a4 _ (S4 : Zt [_,_,_,_,_] [_,_,_,_])
 refine wp_cond_false (S4.bool 0 28 rfl) (wp_skip (thenN ?_))
 refine wq [Fw (ZN (fl A B)) w, .put (.inl 4) (.box 24 ((ZN (fl A B)) w.heap.size)), V (iV 0)] ur5 (.inl 2 :: ur3) S4 ?_ ?_
 ·exact jj3 (loA 3 wA yaa yad) (seA 2 wA (oO 0 32) yaa yao yad) mC
 intro _ a5 _ (S5 : Zt [_,_,_,_,_] [_,_,_,_])
 refine wp_ret ?_
 exact ycv S5 rfl (yaw S5 2 4 rfl yaa yad) (ya8 S5 0 5 rfl)
theorem yx3 {A B : Int} {ka kb : Nat} (hB : B ≠ 0) (hk : ka + kb + 9 ≤ 35184372088831) : ∀ w u v, Zv A ka u w → Zv B kb v w → CG 83 #[u, v] w (TWO (ZN (nr A B)) (IS (.int .i64 0))) := by
 rintro w u v ⟨s, p, n, c, xs, rfl, h, rfl, hn⟩ ⟨t, q, m, d, ys, rfl, h', rfl, hm⟩
 have ey := sg_abs t (val ys)
 by_cases hc : val ys ≤ 2 * (rm (sg s (val xs)) (sg t (val ys))).natAbs
 ·rw [← yyh hB (by rw [ey]; exact hc)]
  exact yvv w s t p q n c m d xs ys h h' _ _ rfl rfl hB (yt2 (by omega)) (by omega)
 ·rw [← yrt hB (by rw [ey]; omega)]
  exact yvw w s t p q n c m d xs ys h h' _ _ rfl rfl hB (yt3 (by omega)) (by omega)
theorem ytm (w : World) (s t : Bool) (p q : Option Addr) (n c m d : Nat) (xs ys : List Nat) (h : Sl w p n c xs) (h' : Sl w q m d ys) (hy : val ys ≠ 0) (hl : (0 : Int) < (((digs (val xs % val ys)).length : Nat) : Int)) (hs : n + m + 9 ≤ 35184372088831) :
  Calls Tryz.prog 98 #[.agg #[.bool s, .slice p n c], .agg #[.bool t, .slice q m d]] w (Gives (TWO (IS (.agg #[.bool false, .slice none 0 0])) (IS (.int .i64 20))) w) := by
 refine yan (sl := [(0, (Zx s p n c xs)), (1, (Zx t q m d ys))]) Tryz.func98 rfl Tryz.ntmps98 (by simp) (yai rfl (yd6 h) (yai rfl (yd6 h') yar)) ?_
 intro a0 S0
 refine wq [.new (.box 24 (Zx s p n c xs)), .new (.box 24 (Zx t q m d ys)), .new (.box 24 zI), V (iV 0)] [.inl 0, .inl 1, .inl 2] [.inl 3] S0 ?_ ?_
 ·exact jj4 (bxA wA (oS 0 0) (ycs yb8)) (bxA wA (oS 1 1) (ycs yb8)) (nwA wA yak) mC
 intro _ a1 _ (S1 : Zt [_,_,_] [_])
 refine wq [V (Part a1 2 1), V (Nx p n c xs), V (Part a1 3 1), V (Nx q m d ys), Fw (THREE (NN (val xs / val ys)) (NN (val xs % val ys)) (IS (.int .i64 0))) w, Fw (THREE (NN (val xs / val ys)) (NN (val xs % val ys)) (IS (.int .i64 0))) w, Fw (NN (val xs / val ys)) w, Fw (NN (val xs % val ys)) w, V (iV 0), Fw (NN (val xs / val ys)) w, Fw (NN (val xs % val ys)) w, V (iV 0)] ur3 [.inl 9, .inl 10, .inl 11, .inr 0] S1 ?_ ?_
 ·exact ⟨⟨⟨⟨jj8 (ptA wA 0 ybt) (plA wA (oO 0 10) 0 rfl rfl (ybu yet)) (ptA wA 1 ybt) (plA wA (oO 2 12) 1 rfl rfl (ybu yet)) (cc2 wA (qO 1 11 rfl) (qO 3 13 rfl) (ybv (yc4 _) (yc4 _) (yaf _)) (fun w u v h1 h2 => zab hy (by omega) w u v ((yg3 (zdu _)) _ _ h1) ((yg3 (zdu _)) _ _ h2))) (mO 4 14) (e30 wA (oO 5 9)) (e31 wA (oO 5 9)), e32 wA (oO 5 9)⟩, mO 6 15⟩, mO 7 16⟩, mO 8 17⟩
 intro _ a2 _ (S2 : Zt [_,_,_] [_,_,_,_])
 refine wp_seq (wp_block ?_)
 refine wq [V (iV 0), kF, kF] ur3 (.inl 2 :: ur4) S2 ?_ ?_
 ·exact jj3 (mS 2 8) (yc3 wA (oO 0 19) (yab _) (h := rfl)) (mO 1 20)
 intro _ a3 _ (S3 : Zt [_,_,_] [_,_,_,_,_])
 refine wp_cond_false (S3.bool 0 18 rfl) ?_
 refine wq [Fw (NN (val xs % val ys)) w, V (Is (.int .i64 ((digs (val xs % val ys)).length : Nat))), kT, kT] ur3 [.inl 3, .inr 0, .inr 1, .inr 3, .inr 4] S3 ?_ ?_
 ·exact jj4 (mS 2 7) (yio rfl wA rfl (oO 0 24) ywl Tryz.underlying22 rfl) (ydz wA (oO 1 25) (yab _) (h := hl)) (mO 2 26)
 intro _ a4 _ (S4 : Zt [_,_,_] [_,_,_,_,_])
 refine wp_cond_true (S4.bool 0 23 rfl) ?_
 refine wq [.val zI, .put (.inl 4) (.box 24 zI), V (iV 20)] ur3 (.inl 2 :: ur4) S4 ?_ ?_
 ·exact jj3 (ybm rfl wA rfl rfl) (seA 2 wA (oO 0 27) yaa yao yao) mC
 intro _ a5 _ (S5 : Zt [_,_,_] [_,_,_,_,_])
 refine wp_ret (inBlkR (thenR ?_))
 exact ycv S5 rfl (yaw S5 2 4 rfl yaa yao) (ya8 S5 0 5 rfl)
theorem ytn (w : World) (s t : Bool) (p q : Option Addr) (n c m d : Nat) (xs ys : List Nat) (h : Sl w p n c xs) (h' : Sl w q m d ys) (hy : val ys ≠ 0) (hl : (((digs (val xs % val ys)).length : Nat) : Int) ≤ 0) (hs : n + m + 9 ≤ 35184372088831) :
  Calls Tryz.prog 98 #[.agg #[.bool s, .slice p n c], .agg #[.bool t, .slice q m d]] w (Gives (TWO (ZN (sg (s != t) (val xs / val ys))) (IS (.int .i64 0))) w) := by
 refine yan (sl := [(0, (Zx s p n c xs)), (1, (Zx t q m d ys))]) Tryz.func98 rfl Tryz.ntmps98 (by simp) (yai rfl (yd6 h) (yai rfl (yd6 h') yar)) ?_
 intro a0 S0
 refine wq [.new (.box 24 (Zx s p n c xs)), .new (.box 24 (Zx t q m d ys)), .new (.box 24 zI), V (iV 0)] [.inl 0, .inl 1, .inl 2] [.inl 3] S0 ?_ ?_
 ·exact jj4 (bxA wA (oS 0 0) (ycs yb8)) (bxA wA (oS 1 1) (ycs yb8)) (nwA wA yak) mC
 intro _ a1 _ (S1 : Zt [_,_,_] [_])
 refine wq [V (Part a1 2 1), V (Nx p n c xs), V (Part a1 3 1), V (Nx q m d ys), Fw (THREE (NN (val xs / val ys)) (NN (val xs % val ys)) (IS (.int .i64 0))) w, Fw (THREE (NN (val xs / val ys)) (NN (val xs % val ys)) (IS (.int .i64 0))) w, Fw (NN (val xs / val ys)) w, Fw (NN (val xs % val ys)) w, V (iV 0), Fw (NN (val xs / val ys)) w, Fw (NN (val xs % val ys)) w, V (iV 0)] ur3 [.inl 9, .inl 10, .inl 11, .inr 0] S1 ?_ ?_
 ·exact ⟨⟨⟨⟨jj8 (ptA wA 0 ybt) (plA wA (oO 0 10) 0 rfl rfl (ybu yet)) (ptA wA 1 ybt) (plA wA (oO 2 12) 1 rfl rfl (ybu yet)) (cc2 wA (qO 1 11 rfl) (qO 3 13 rfl) (ybv (yc4 _) (yc4 _) (yaf _)) (fun w u v h1 h2 => zab hy (by omega) w u v ((yg3 (zdu _)) _ _ h1) ((yg3 (zdu _)) _ _ h2))) (mO 4 14) (e30 wA (oO 5 9)) (e31 wA (oO 5 9)), e32 wA (oO 5 9)⟩, mO 6 15⟩, mO 7 16⟩, mO 8 17⟩
 intro _ a2 _ (S2 : Zt [_,_,_] [_,_,_,_])
 refine wp_seq (wp_block ?_)
 refine wq [V (iV 0), kF, kF] ur3 (.inl 2 :: ur4) S2 ?_ ?_
 ·exact jj3 (mS 2 8) (yc3 wA (oO 0 19) (yab _) (h := rfl)) (mO 1 20)
 intro _ a3 _ (S3 : Zt [_,_,_] [_,_,_,_,_])
 refine wp_cond_false (S3.bool 0 18 rfl) ?_
 refine wq [Fw (NN (val xs % val ys)) w, V (Is (.int .i64 ((digs (val xs % val ys)).length : Nat))), kF, kF] ur3 [.inl 3, .inr 0, .inr 1, .inr 3, .inr 4] S3 ?_ ?_
 ·exact jj4 (mS 2 7) (yio rfl wA rfl (oO 0 24) ywl Tryz.underlying22 rfl) (ycj wA (oO 1 25) (yab _) (h := hl)) (mO 2 26)
 intro _ a4 _ (S4 : Zt [_,_,_] [_,_,_,_,_])
 refine wp_cond_false (S4.bool 0 23 rfl) (wp_skip (inBlkN (thenN ?_)))
 refine wq [V (Part a4 2 0), V (Is (.bool s)), V (Part a4 3 0), V (Is (.bool t)), V (Is (.bool (s != t))), Fw (NN (val xs / val ys)) w, Fw (ZN (sg (s != t) (val xs / val ys))) w, .put (.inl 4) (.box 24 ((ZN (sg (s != t) (val xs / val ys))) w.heap.size)), V (iV 0)] ur3 [.inl 8, .inr 0, .inr 1, .inr 3] S4 ?_ ?_
 ·exact ⟨jj8 (ptZ wA 0 ydq) (plA wA (oO 0 28) 0 rfl rfl (yds yhn)) (ptZ wA 1 ydq) (plA wA (oO 2 30) 1 rfl rfl (yds yhn)) (yfb wA (oO 1 29) (oO 3 31)) (mS 2 6) (yjo rfl wA rfl (oO 4 32) (oO 5 33) rfl (fun args w => by go_simp) yoh) (seA 2 wA (oO 6 34) yaa yao yad), mC⟩
 intro _ a5 _ (S5 : Zt [_,_,_] [_,_,_,_])
 refine wp_ret ?_
 exact ycv S5 rfl (yaw S5 2 4 rfl yaa yad) (ya8 S5 0 5 rfl)
theorem ysl {s t : Bool} {x y : Nat} (hy : y ≠ 0) : rm (sg s x) (sg t y) = 0 ↔ x % y = 0 := by
 by_cases h0 : x % y = 0
 ·rw [(ydh s t x y hy (Or.inr h0)).2, h0]
  constructor
  ·exact fun _ => rfl
  ·intro _; cases t <;> rfl
 ·have hlt := zer x (zee hy)
  have : rm (sg s x) (sg t y) ≠ 0 := by
   by_cases hst : s = t
   ·rw [(ydh s t x y hy (Or.inl hst)).2]
    intro e
    have := sg_abs t (x % y)
    rw [e] at this
    exact h0 (by simpa using this.symm)
   ·rw [(ykh s t x y hy hst h0).2]
    intro e
    have := sg_abs t (y - x % y)
    rw [e] at this
    simp at this
    omega
  exact ⟨fun e => absurd e this, fun e => absurd e h0⟩
theorem yrf {A B : Int} {ka kb : Nat} (hB : B ≠ 0) (hr : rm A B ≠ 0) (hk : ka + kb + 9 ≤ 35184372088831) : ∀ w u v, Zv A ka u w → Zv B kb v w → CG 98 #[u, v] w (TWO (IS (.agg #[.bool false, .slice none 0 0])) (IS (.int .i64 20))) := by
 rintro w u v ⟨s, p, n, c, xs, rfl, h, rfl, hn⟩ ⟨t, q, m, d, ys, rfl, h', rfl, hm⟩
 have hy := yzp (t := t) rfl hB
 have h0 : val xs % val ys ≠ 0 := fun e => hr ((ysl hy).2 e)
 have hl : (digs (val xs % val ys)).length ≠ 0 := fun e => h0 ((yat _).1 e)
 exact ytm w s t p q n c m d xs ys h h' hy (by omega) (by omega)
theorem yid {A B : Int} {ka kb : Nat} (hB : B ≠ 0) (hr : rm A B = 0) (hk : ka + kb + 9 ≤ 35184372088831) : ∀ w u v, Zv A ka u w → Zv B kb v w → CG 98 #[u, v] w (TWO (ZN (fl A B)) (IS (.int .i64 0))) := by
 rintro w u v ⟨s, p, n, c, xs, rfl, h, rfl, hn⟩ ⟨t, q, m, d, ys, rfl, h', rfl, hm⟩
 have hy := yzp (t := t) rfl hB
 have h0 : val xs % val ys = 0 := (ysl hy).1 hr
 rw [(ydh s t (val xs) (val ys) hy (Or.inr h0)).1]
 exact ytn w s t p q n c m d xs ys h h' hy (by rw [h0]; decide) (by omega)
end Go.Proofs.YtdnindaohpdblaaGreat
