import Derived.Test.YtbkobojhkhiohaaGreatFmB
import Derived.Test.YtbkobojhkhiohaaGreatConcatK
set_option linter.all false
namespace Go.Proofs.YtbkobojhkhiohaaGreat
open Go Go.RowKit Nt
set_option maxRecDepth 20000
set_option maxHeartbeats 16000000

theorem ytl (w : World) (A : Int) (D k1 k2 : Nat) (u : Value) (h : Rv A (D : Int) k1 k2 u w) (hk1 : k1 ≤ 8388608) (hk2 : k2 ≤ 8388608) (hB : (D : Int) ≠ 0) :
  CG 65 #[u] w (ZN (fl A (D : Int))) := by
 refine yan (sl := [(0, (PR (Zv A k1) (Zv ((D : Int)) k2)))]) Tryz.func65 rfl Tryz.ntmps65 (by simp) (yad rfl (ymt h) yar) ?_
 intro a0 S0
 refine wq [.new (.box 31 (PR (Zv A k1) (Zv ((D : Int)) k2))), .new (.box 29 zI)] [.inl 0, .inl 1] [] S0 ?_ ?_
 ·exact jj2 (bxA wA (oS 0 0) (ycn (ya2 yak yak))) (nwA wA yal)
 intro _ a1 _ (S1 : Zt [_,_] [])
 refine wq [V (Part a1 1 0), V (Zv A k1), V (Part a1 1 2), V (Zv ((D : Int)) k2), Fw (TWO (ZN (fl A ((D : Int)))) (ZN (rm A ((D : Int))))) w, Fw (TWO (ZN (fl A ((D : Int)))) (ZN (rm A ((D : Int))))) w, Fw (ZN (fl A ((D : Int)))) w, Fw (ZN (rm A ((D : Int)))) w, .new (.box 29 zI), .new (.box 29 zI), .put (.inr 8) (.box 29 ((ZN (fl A ((D : Int)))) w.heap.size)), .put (.inr 9) (.box 29 ((ZN (rm A ((D : Int)))) w.heap.size))] [.inr 0, .inr 1, .inl 8, .inl 9] [] S1 ?_ ?_
 ·exact ⟨⟨⟨⟨jj8 (ptZ wA 0 ycu) (plA wA (oO 0 6) 0 rfl rfl yc6) (ptA wA 0 yby) (plA wA (oO 2 8) 0 rfl rfl yb1) (cc2 wA (qO 1 7 rfl) (qO 3 9 rfl) (ybv (yai _) (yai _)) (fun w u v h1 h2 => ykh hB (by omega) w u v ((fun _ _ h => h) _ _ h1) ((fun _ _ h => h) _ _ h2))) (mO 4 10) (e20 wA (oO 5 5)) (e21 wA (oO 5 5)), nwA wA yal⟩, nwA wA yal⟩, puA 8 wA (oO 6 11) yaa yao yah⟩, puA 9 wA (oO 7 12) yaa yao yah⟩
 intro _ a2 _ (S2 : Zt [_,_,_,_] [])
 refine wq [Fw (ZN (fl A ((D : Int)))) w, .put (.inl 2) (.box 29 ((ZN (fl A ((D : Int)))) w.heap.size))] ur4 [] S2 ?_ ?_
 ·exact jj2 (loA 2 wA yaa yah) (seA 1 wA (oO 0 13) yaa yao yah)
 intro _ a3 _ (S3 : Zt [_,_,_,_] [])
 refine wp_ret ?_
 exact yav S3 rfl (yau S3 1 2 rfl yaa yah)
theorem yrz {A : Int} {D k1 k2 : Nat} (hD : D ≠ 0) (hk1 : k1 ≤ 8388608) (hk2 : k2 ≤ 8388608) : ∀ w u, Rv A (D : Int) k1 k2 u w → CG 65 #[u] w (ZN (fl A (D : Int))) := fun w u h => ytl w A D k1 k2 u h hk1 hk2 (by omega)
theorem yzj (w : World) :
  CG 66 #[] w (PRF (ZN (1)) (ZN (2))) := by
 refine yan (sl := []) Tryz.func66 rfl Tryz.ntmps66 (by simp) yar ?_
 intro a0 S0
 refine wq [.new (.box 31 zR)] [.inl 0] [] S0 ?_ ?_
 ·exact jj1 (nwA wA ya5)
 intro _ a1 _ (S1 : Zt [_] [])
 refine wq [Fw (ZN (1)) w, Fw (ZN (2)) w, V (PR ((ZN (1)) w.heap.size) ((ZN (2)) w.heap.size)), .put (.inl 0) (.box 31 (PR ((ZN (1)) w.heap.size) ((ZN (2)) w.heap.size)))] [.inr 0] [] S1 ?_ ?_
 ·exact jj4 (ymf rfl wA rfl  (yai _) rfl (fun args w => by go_simp) zba) (cc1 wA (yab _) (yai _) (yki 2 (by decide) (by decide))) (yfy rfl wA rfl (oO 0 1) (oO 1 2) yah yah rfl) (seA 0 wA (oO 2 3) yaj ybk (ya2 yah yah))
 intro _ a2 _ (S2 : Zt [_] [])
 refine wp_ret ?_
 exact yav S2 rfl (yau S2 0 0 rfl yaj (ya2 yah yah))
theorem yyd : ∀ w, CG 66 #[] w (RN 1 2) := fun w => yzj w
theorem yvn (w : World) (A : Int) (D k1 k2 : Nat) (u : Value) (h : Rv A (D : Int) k1 k2 u w) (hk1 : k1 ≤ 1048577) (hk2 : k2 ≤ 1048577) (hD : D ≠ 0) (nx : Int) (dx : Nat) (ex : nR (A * ((2 : Nat) : Int) + 1 * ((D : Nat) : Int)) (D * 2) = nx) (ey : dR (A * ((2 : Nat) : Int) + 1 * ((D : Nat) : Int)) (D * 2) = dx) (lx : (digs nx.natAbs).length ≤ 8388608) (ly : (digs dx).length ≤ 8388608) (zx : dx ≠ 0) (ef : fl nx ((dx : Nat) : Int) = nr A (D : Int)) :
  CG 35 #[u] w (ZN (nr A (D : Int))) := by
 have l1i : (digs (1 : Int).natAbs).length ≤ 1 := yke (by decide)
 have l2 : (digs 2).length ≤ 1 := yay (by decide)
 have l1 : (digs 1).length ≤ 1 := yay (by decide)
 refine yan (sl := [(0, (PR (Zv A k1) (Zv ((D : Int)) k2)))]) Tryz.func35 rfl Tryz.ntmps35 (by simp) (yad rfl (ymt h) yar) ?_
 intro a0 S0
 refine wq [.new (.box 31 (PR (Zv A k1) (Zv ((D : Int)) k2))), .new (.box 29 zI)] [.inl 0, .inl 1] [] S0 ?_ ?_
 ·exact jj2 (bxA wA (oS 0 0) (ycn (ya2 yak yak))) (nwA wA yal)
 intro _ a1 _ (S1 : Zt [_,_] [])
 refine wq [V (PR (Zv A k1) (Zv ((D : Int)) k2)), Fw (RN 1 2) w, Fw (RN nx dx) w, Fw (ZN (nr A (D : Int))) w, .put (.inl 2) (.box 29 ((ZN (nr A (D : Int))) w.heap.size))] ur2 [] S1 ?_ ?_
 ·exact jj5 (loA 0 wA yaj (ya2 yak yak)) (ymf rfl wA rfl  (yec _ _) rfl (fun args w => by go_simp) yyd) (cc2 wA (qO 0 3 rfl) (qO 1 4 rfl) (yec _ _) (fun w u0 u1 h0 h1 => Gives.cast ((fun w u v h1 h2 => yno (by first | assumption | decide) (by first | assumption | decide) (by omega) (by omega) (by omega) (by omega) w u v ((yjr (fun _ _ h => h) (fun _ _ h => h)) _ _ h1) ((yzl l1i l2) _ _ h2)) w u0 u1 h0 h1) (by rw [ex, ey]))) (cc1 wA (qO 2 5 rfl) (yai _) (fun w u0 h0 => Gives.cast ((fun w u h1 => yrz (by assumption) (by omega) (by omega) w u ((yzl lx ly) _ _ h1)) w u0 h0) (by rw [ef]))) (seA 1 wA (oO 3 6) yaa yao yah)
 intro _ a2 _ (S2 : Zt [_,_] [])
 refine wp_ret ?_
 exact yav S2 rfl (yau S2 1 2 rfl yaa yah)
theorem yvc {A : Int} {D : Nat} (hD : D ≠ 0) : fl (A * ((2 : Nat) : Int) + 1 * ((D : Nat) : Int)) ((D * 2 : Nat) : Int) = nr A (D : Int) := by
 unfold nr
 rw [show A * ((2 : Nat) : Int) + 1 * ((D : Nat) : Int) = 2 * A + (D : Int) from by grind, show ((D * 2 : Nat) : Int) = 2 * (D : Int) from by rw [zfh]; grind]
theorem yo0 {A : Int} {D k1 k2 : Nat} (hD : D ≠ 0) (hk1 : k1 ≤ 1048577) (hk2 : k2 ≤ 1048577) : ∀ w u, Rv A (D : Int) k1 k2 u w → CG 35 #[u] w (ZN (nr A (D : Int))) := fun w u h => by
 have D2 : D * 2 ≠ 0 := by omega
 obtain ⟨lA, lD⟩ : (digs A.natAbs).length ≤ 1048577 ∧ (digs D).length ≤ 1048577 := by
  obtain ⟨_, _, _, _, _, a, b⟩ := h
  have := yul a; have := yul b; rw [zfn] at this; omega
 refine yvn w A D k1 k2 u h hk1 hk2 hD _ _ rfl rfl (ywr ?_) (ywb ?_) (yeh D2) ((za2 D2).trans (yvc hD))
 ·exact ze6 (yxm (N := 1) (M := 2) lA lD (l := 1) (yke (by decide)) (yay (by decide))) (by decide)
 ·exact ze6 (yyn lD (l := 1) (yay (by decide))) (by decide)
theorem fresh_lg {m : Nat} {us : List Value} {z : Value} : Fresh (LF 2 (m + 1) (us.map IS ++ [IS z])) := yfv (by decide) (fun i ψ h => by
 rcases zge i (us.map IS).length with hi | hi
 ·rw [zfm hi] at h
  obtain ⟨x, _, rfl⟩ := ya3 h
  exact yaf _
 ·rw [zff hi] at h
  match i - (us.map IS).length, h with
  | 0, h => simp at h; subst h; exact yaf _
  | j + 1, h => simp at h)
theorem yu8 (w : World) (u : Value) (m : Nat) (us : List Value) (s : Bool) (p : Option Addr) (n c : Nat) (h : Hs w (Ar 2 m (us.map Is)) u) (lu : us.length = m) (hm : m ≤ 1048577) (hcel : ∀ (i : Nat) φ, (us.map Is)[i]? = some φ → Cel 2 φ) :
  Calls Tryz.prog 37 #[u, .agg #[.bool s, .slice p n c]] w (Gives (LF 2 (m + 1) (us.map IS ++ [IS (.agg #[.bool s, .slice p n c])])) w) := by
 refine yan (sl := [(0, (Ar 2 m (us.map Is))), (1, (Is (.agg #[.bool s, .slice p n c])))]) Tryz.func37 rfl Tryz.ntmps37 (by simp) (yad rfl (h) (yad rfl (yem _) yar)) ?_
 intro a0 S0
 refine wq [.new (.box 29 (Is (.agg #[.bool s, .slice p n c]))), V (Is (.slice none 0 0))] [.inl 0] [.inr 0] S0 ?_ ?_
 ·exact jj2 (bxA wA (oS 1 1) (ycz yn6)) mC
 intro _ a1 _ (S1 : Zt [_] [_])
 refine wq [.new (.row 29 2 0 (CE 2 (([] : List Pr))))] [.inr 0, .inl 0] [.inr 0] S1 ?_ ?_
 ·exact jj1 (yg5 rfl wA rfl rfl yoo)
 intro _ a2 _ (S2 : Zt [_,_] [_])
 refine wq [V (Is (a2.eval (.tmp 5))), V (Ar 2 m (us.map Is)), .mov 5 (.row 29 2 (0 + m) (CE 2 (([] : List Pr) ++ us.map Is))), .ref 2] [.inr 0, .inl 3] [] S2 ?_ ?_
 ·exact jj4 (yfz rfl wA (Or.inl rfl) (by kernel_rfl) rfl) (mS 0 0) (yns rfl wA rfl (oO 0 6) (k := 1) rfl (by kernel_rfl) (oO 1 7) hcel yhy Tryz.underlying22 ⟨by unfold maxLen; omega, by omega⟩ rfl) (ygg 2 rfl wA (Or.inr rfl) (by kernel_rfl) rfl rfl)
 intro _ a3 _ (S3 : Zt [_,_] [])
 refine wq [V (Is (a3.eval (.tmp 5))), V (Is (.agg #[.bool s, .slice p n c])), V (Sng 29 2 (Is (.agg #[.bool s, .slice p n c])) w.heap.size), .mov 5 (.row 29 2 (0 + m + 1) (CE 2 (([] : List Pr) ++ us.map Is ++ [Is (.agg #[.bool s, .slice p n c])]))), .ref 3] [.inl 4] [] S3 ?_ ?_
 ·exact jj5 (yfz rfl wA (Or.inl rfl) (by kernel_rfl) rfl) (loA 0 wA yaa yn6) (yhi rfl wA rfl ynh (oO 1 10) (yc0 (by decide) yn6) rfl) (yg4 rfl wA rfl (oO 0 9) (k := 1) rfl (by kernel_rfl) ((oO 2 11).imp ylt) yhy Tryz.underlying22 (by decide) ⟨by unfold maxLen; omega, by omega⟩ rfl (fun xs ys w h1 h2 => ye9 _ _ _ h1 h2)) (ygg 3 rfl wA (Or.inr rfl) (by kernel_rfl) rfl rfl)
 intro _ a4 W4 (S4 : Sta w 13 [(4, (.row 29 2 (0 + m + 1) (CE 2 (([] : List Pr) ++ us.map Is ++ [Is (.agg #[.bool s, .slice p n c])]))))] [] _ _ _)
 refine wp_ret ?_
 obtain ⟨_, S5⟩ : ∃ Bq, Sta w 13 [] [(4, ((LF 2 (m + 1) (us.map IS ++ [IS (.agg #[.bool s, .slice p n c])])) w.heap.size))] Bq a4 W4 := ⟨_, S4.freeze 0 rfl (by simp) (fun v w' xs ho hc => by rw [zf7] at ho; exact yho (ψs := us.map IS ++ [IS (.agg #[.bool s, .slice p n c])]) (by decide) v w' xs ho (by rw [List.map_append, List.map_map]; exact hc))⟩
 obtain ⟨a5, _, e1, e2⟩ : ∃ a W, a4 = a ∧ W4 = W := ⟨_, _, rfl, rfl⟩
 rw [e1, e2] at S5 ⊢
 clear e1 e2
 exact yav S5 rfl (yaw S5 0 4 rfl)
theorem yfx {m Ks Ka Kw : Nat} {x : List Int} {a : Int} (hm : m ≤ 1048577) (h1 : Ks ≤ Kw) (h2 : Ka ≤ Kw) (B : Nat → Prop) (w : World) (u v : Value) (hB : ∀ k, B k → k < w.heap.size) (h : Has B w (Vv m x Ks) u) (hv : Has B w (Zv a Ka) v) : Calls Tryz.prog 37 #[u, v] w fun e w' => ∃ r, e = .returned r ∧ Below w.heap.size w w' ∧ Has B w' (Vv (m + 1) (x ++ [a]) Kw) r := by
 obtain ⟨s, p, n, c, xs, rfl, _⟩ := id hv.now
 have hC : ∀ (k : Nat) φ, (x.map (fun z => Zv z Ks))[k]? = some φ → Cel 2 φ := fun k φ hφ => by
  obtain ⟨z, _, rfl⟩ := ya3 hφ
  exact yc0 (by decide) yak
 obtain ⟨vs, lv, hvs, hp⟩ := yv8 (by decide) hC h
 have lx : x.length = m := by obtain ⟨_, _, _, hl, _⟩ := id h.now; simpa using hl
 have hu : Hs w (Ar 2 m (vs.map Is)) u := fun w' e => ye5 (by simp [Pl, lv, lx]) (fun i φ φ' q1 q2 v w q => by
  obtain ⟨y, φ0, q3, q4, rfl⟩ := zg5.1 q1
  obtain ⟨y', q5, rfl⟩ := ya3 q2
  rw [q3] at q5
  cases q5
  exact q.1) _ _ (hp w' (e.mono (fun _ h => h.elim)))
 have key := yu8 w u m vs s p n c hu lv hm (fun i φ hφ => by
  obtain ⟨y, hy, rfl⟩ := ya3 hφ
  have hi := (zfa.1 hy).1
  intro v w e
  rw [show v = y from e]
  exact hC i _ (yb6 (fun z => Zv z Ks) (zfb (show i < x.length by omega))) y _ (hvs i y _ hy (yb6 (fun z => Zv z Ks) (zfb (show i < x.length by omega)))).now)
 refine key.mono ?_
 rintro e w' ⟨r, rfl, hb, hr⟩
 refine ⟨r, rfl, hb, fun w'' e'' => ?_⟩
 have ev : Ev B w w'' := (Ev.of_below hb).back (fun _ _ h => h) e''
 obtain ⟨⟨p', c', e1, l, b, at_⟩, hf⟩ := fresh_lg.ev _ _ _ _ B hB hr e''
 refine ⟨p', c', e1, by simp [lx], b, fun i φ hφ => ?_⟩
 obtain ⟨z, hz, rfl⟩ := ya3 hφ
 rcases zge i m with hi | hi
 ·rw [zfm (by omega)] at hz
  obtain ⟨y, hy⟩ : ∃ y, vs[i]? = some y := ⟨_, zfb (by omega)⟩
  obtain ⟨b', o', u', e1, e2, e3, e4⟩ := at_ i (Is y) (by rw [zfg, zfm (by simp; omega), zfg, hy]; rfl)
  have e5 : u' = y := e4
  subst e5
  exact ⟨b', o', u', e1, e2, e3, yhd h1 _ _ (hvs i _ _ hy (yb6 (fun z => Zv z Ks) hz) w'' ev)⟩
 ·rw [zff (by omega)] at hz
  have hlt := (zfa.1 hz).1
  simp at hlt
  obtain rfl : i = m := by omega
  rw [lx, zgd] at hz
  simp at hz
  subst hz
  obtain ⟨b', o', u', e1, e2, e3, e4⟩ := at_ i (Is (.agg #[.bool s, .slice p n c])) (by rw [zfg, zff (by simp; omega)]; simp [lv]; rfl)
  have e5 : u' = _ := e4
  subst e5
  exact ⟨b', o', _, e1, e2, e3, yhd h2 _ _ (hv w'' ev)⟩
theorem yoz {A N : Int} {D M k1 k2 k3 k4 : Nat} (hD : D ≠ 0) (hM : M ≠ 0) (b1 : k1 ≤ 8388608) (b2 : k2 ≤ 8388608) (b3 : k3 ≤ 8388608) (b4 : k4 ≤ 8388608) : ∀ w u v, Rv A (D : Int) k1 k2 u w → Rv N (M : Int) k3 k4 v w → CG 67 #[u, v] w (IS (.int .i64 (A * (M : Int) - N * (D : Int)).sign)) := by
 rintro w u v ⟨x0, x1, y0, y1, rfl, ⟨s, p, n, c, xs, ea, h, rfl, hn⟩, ⟨t, q, m, d, ys, eb, h', eD, hm⟩⟩ ⟨z0, z1, u0, u1, rfl, ⟨s', p', n', c', xs', ea', h2, rfl, hn'⟩, ⟨t', q', m', d', ys', eb', h2', eM, hm'⟩⟩
 simp at ea eb ea' eb'
 obtain ⟨rfl, rfl⟩ := ea
 obtain ⟨rfl, rfl⟩ := eb
 obtain ⟨rfl, rfl⟩ := ea'
 obtain ⟨rfl, rfl⟩ := eb'
 obtain ⟨rfl, rfl⟩ := ygb eD hD
 obtain ⟨rfl, rfl⟩ := ygb eM hM
 refine (yzm w s p n c xs q m d ys s' p' n' c' xs' q' m' d' ys' h h' h2 h2' hD hM (by omega) (by omega) (by omega) (by omega)).mono ?_
 rintro e w' ⟨rfl, hb⟩
 exact ⟨_, rfl, hb, rfl⟩
theorem zez (w : World) (u t v r : Value) (nD nL nT K Kt m Kw Kr : Nat) (D : List Int) (L : List (List Int)) (ts : List (Int × Int)) (x : List Int) (rn : Int) (rd : Nat) (h : Hs w (SF [Vv nD D K, Mv nL L K]) u) (ht : Hs w (QV nT ts Kt) t) (hv : Hs w (Vv m x Kw) v) (hr : Hs w (PR (Zv rn Kr) (Zv (rd : Int) Kr)) r) (hrd : rd ≠ 0) (hKr : Kr ≤ 8388608) (N : Int) (q : Nat) (hq : q ≠ 0) (bN : (digs N.natAbs).length ≤ 8388608) (bq : (digs q).length ≤ 8388608) (hno : ∀ (w : World) (u t v : Value), Hs w (SF [Vv nD D K, Mv nL L K]) u → Hs w (QV nT ts Kt) t → Hs w (Vv m x Kw) v → CG 10 #[u, t, v] w (QQ N q)) (hle : N * (rd : Int) ≤ rn * (q : Int)) :
  CG 36 #[u, t, v, r] w (IS (.bool true)) := by
 have hsg : (N * (rd : Int) - rn * (q : Int)).sign ≤ 0 := yd1 (by omega)
 refine yan (sl := [(0, (SF [(Vv nD D K), (Mv nL L K)])), (1, (QV nT ts Kt)), (2, (Vv m x Kw)), (3, (PR (Zv rn Kr) (Zv ((rd : Int)) Kr)))]) Tryz.func36 rfl Tryz.ntmps36 (by simp) (yad rfl (h) (yad rfl (ht) (yad rfl (hv) (yad rfl (hr) yar)))) ?_
 intro a0 S0
 refine wq [.new (.box 25 (SF [(Vv nD D K), (Mv nL L K)])), .new (.box 31 (PR (Zv rn Kr) (Zv ((rd : Int)) Kr))), kF] [.inl 0, .inl 1] [.inr 1, .inr 2] S0 ?_ ?_
 ·exact jj3 (bxA wA (oS 0 0) (ybw yas)) (bxA wA (oS 3 3) (ycn (ya2 yak yak))) mC
 intro _ a1 _ (S1 : Zt [_,_] [_,_])
 refine wq [V (SF [(Vv nD D K), (Mv nL L K)]), V (QV nT ts Kt), V (Vv m x Kw), Fw (QQ N q) w, V (PR (Zv rn Kr) (Zv ((rd : Int)) Kr)), V (iV ((N * (rd : Int) - rn * (q : Int)).sign)), kT, kT] [.inr 0] [.inl 7] S1 ?_ ?_
 ·repeat' refine And.intro ?_ ?_
  ·trivial
  ·exact loA 0 wA yat yas
  ·exact mS 0 1
  ·exact mS 1 2
  ·exact ch3 wA (qO 0 9 rfl) (qO 1 10 rfl) (qO 2 11 rfl) (ybi _ _) (fun w u0 u1 u2 h0 h1 h2 => hno w u0 u1 u2 h0 h1 h2)
  ·exact loA 1 wA yaj (ya2 yak yak)
  ·exact cc2 wA (qO 3 12 rfl) (qO 4 13 rfl) (yaf _) (fun w u v h1 h2 => Gives.cast (ψ := IS (.int .i64 (N * (rd : Int) - rn * (q : Int)).sign)) (yoz (k1 := 8388608) (k2 := 8388608) (k3 := Kr) (k4 := Kr) (yeh hq) hrd (ze5 _) (ze5 _) hKr hKr w u v (yi6 bN bq _ _ h1) h2) (by rw [ysd hq]))
  ·exact yes wA (oO 5 14) (yab _)
  ·exact mO 6 15
 intro _ a2 _ (S2 : Zt [_] [_])
 refine wp_ret ?_
 exact yav S2 rfl (yaw S2 0 8 rfl)
theorem zey (w : World) (u t v r : Value) (nD nL nT K Kt m Kw Kr : Nat) (D : List Int) (L : List (List Int)) (ts : List (Int × Int)) (x : List Int) (rn : Int) (rd : Nat) (h : Hs w (SF [Vv nD D K, Mv nL L K]) u) (ht : Hs w (QV nT ts Kt) t) (hv : Hs w (Vv m x Kw) v) (hr : Hs w (PR (Zv rn Kr) (Zv (rd : Int) Kr)) r) (hrd : rd ≠ 0) (hKr : Kr ≤ 8388608) (N : Int) (q : Nat) (hq : q ≠ 0) (bN : (digs N.natAbs).length ≤ 8388608) (bq : (digs q).length ≤ 8388608) (hno : ∀ (w : World) (u t v : Value), Hs w (SF [Vv nD D K, Mv nL L K]) u → Hs w (QV nT ts Kt) t → Hs w (Vv m x Kw) v → CG 10 #[u, t, v] w (QQ N q)) (hle : rn * (q : Int) < N * (rd : Int)) :
  CG 36 #[u, t, v, r] w (IS (.bool false)) := by
 have hsg : 0 < (N * (rd : Int) - rn * (q : Int)).sign := by rw [zf9 (by omega)]; decide
 refine yan (sl := [(0, (SF [(Vv nD D K), (Mv nL L K)])), (1, (QV nT ts Kt)), (2, (Vv m x Kw)), (3, (PR (Zv rn Kr) (Zv ((rd : Int)) Kr)))]) Tryz.func36 rfl Tryz.ntmps36 (by simp) (yad rfl (h) (yad rfl (ht) (yad rfl (hv) (yad rfl (hr) yar)))) ?_
 intro a0 S0
 refine wq [.new (.box 25 (SF [(Vv nD D K), (Mv nL L K)])), .new (.box 31 (PR (Zv rn Kr) (Zv ((rd : Int)) Kr))), kF] [.inl 0, .inl 1] [.inr 1, .inr 2] S0 ?_ ?_
 ·exact jj3 (bxA wA (oS 0 0) (ybw yas)) (bxA wA (oS 3 3) (ycn (ya2 yak yak))) mC
 intro _ a1 _ (S1 : Zt [_,_] [_,_])
 refine wq [V (SF [(Vv nD D K), (Mv nL L K)]), V (QV nT ts Kt), V (Vv m x Kw), Fw (QQ N q) w, V (PR (Zv rn Kr) (Zv ((rd : Int)) Kr)), V (iV ((N * (rd : Int) - rn * (q : Int)).sign)), kF, kF] [.inr 0] [.inl 7] S1 ?_ ?_
 ·repeat' refine And.intro ?_ ?_
  ·trivial
  ·exact loA 0 wA yat yas
  ·exact mS 0 1
  ·exact mS 1 2
  ·exact ch3 wA (qO 0 9 rfl) (qO 1 10 rfl) (qO 2 11 rfl) (ybi _ _) (fun w u0 u1 u2 h0 h1 h2 => hno w u0 u1 u2 h0 h1 h2)
  ·exact loA 1 wA yaj (ya2 yak yak)
  ·exact cc2 wA (qO 3 12 rfl) (qO 4 13 rfl) (yaf _) (fun w u v h1 h2 => Gives.cast (ψ := IS (.int .i64 (N * (rd : Int) - rn * (q : Int)).sign)) (yoz (k1 := 8388608) (k2 := 8388608) (k3 := Kr) (k4 := Kr) (yeh hq) hrd (ze5 _) (ze5 _) hKr hKr w u v (yi6 bN bq _ _ h1) h2) (by rw [ysd hq]))
  ·exact yd8 wA (oO 5 14) (yab _)
  ·exact mO 6 15
 intro _ a2 _ (S2 : Zt [_] [_])
 refine wp_ret ?_
 exact yav S2 rfl (yaw S2 0 8 rfl)
theorem zd6 (w : World) (u : Value) (A : Int) (k : Nat) (h : Hs w (Zv A k) u) (hk : k ≤ 1073741824) (hA : 0 ≤ A) :
  CG 68 #[u] w (ZN (fl ((A.natAbs : Nat) : Int) 2)) := by
 have hpk := ydz h.now
 have hab : (digs ((A.natAbs : Nat) : Int).natAbs).length ≤ k := by rw [zfn]; exact hpk
 have hfl : (digs (fl ((A.natAbs : Nat) : Int) 2).natAbs).length ≤ k + 1 := yhf (by decide) hab
 have hsg : 0 ≤ A.sign := ytr hA
 refine yan (sl := [(0, (Zv A k))]) Tryz.func68 rfl Tryz.ntmps68 (by simp) (yad rfl (h) yar) ?_
 intro a0 S0
 refine wq [.new (.box 29 (Zv A k)), .new (.box 29 zI)] [.inl 0, .inl 1] [] S0 ?_ ?_
 ·exact jj2 (bxA wA (oS 0 0) (ycz yak)) (nwA wA yal)
 intro _ a1 _ (S1 : Zt [_,_] [])
 refine wq [V (Zv A k), Fw (ZN (((A.natAbs : Nat) : Int))) w, Fw (ZN (2)) w, Fw (TWO (ZN (fl ((A.natAbs : Nat) : Int) 2)) (ZN (rm ((A.natAbs : Nat) : Int) 2))) w, Fw (TWO (ZN (fl ((A.natAbs : Nat) : Int) 2)) (ZN (rm ((A.natAbs : Nat) : Int) 2))) w, Fw (ZN (fl ((A.natAbs : Nat) : Int) 2)) w, Fw (ZN (rm ((A.natAbs : Nat) : Int) 2)) w, .new (.box 29 zI), .new (.box 29 zI), .put (.inr 7) (.box 29 ((ZN (fl ((A.natAbs : Nat) : Int) 2)) w.heap.size)), .put (.inr 8) (.box 29 ((ZN (rm ((A.natAbs : Nat) : Int) 2)) w.heap.size))] [.inr 0, .inr 1, .inl 7, .inl 8] [] S1 ?_ ?_
 ·exact ⟨⟨⟨jj8 (loA 0 wA yaa yak) (cc1 wA (qO 0 6 rfl) (yai _) (fun w u h1 => ywi (by omega) w u h1)) (cc1 wA (yab _) (yai _) (yki (2) (by omega) (by omega))) (cc2 wA (qO 1 7 rfl) (qO 2 8 rfl) (ybv (yai _) (yai _)) (fun w u v h1 h2 => ykh (ka := k) (kb := 1) (by decide) (by omega) w u v (ya4 hab _ _ h1) (ya4 (by decide) _ _ h2))) (mO 3 9) (e20 wA (oO 4 5)) (e21 wA (oO 4 5)) (nwA wA yal), nwA wA yal⟩, puA 7 wA (oO 5 10) yaa yao yah⟩, puA 8 wA (oO 6 11) yaa yao yah⟩
 intro _ a2 _ (S2 : Zt [_,_,_,_] [])
 refine wp_seq ?_
 refine wq [V (Zv A k), V (iV (A.sign)), kF] [.inr 1, .inr 2] [.inl 2] S2 ?_ ?_
 ·exact jj3 (loA 0 wA yaa yak) (cc1 wA (qO 0 12 rfl) (yaf _) (fun w u h1 => ydh (by omega) w u h1)) (ybl wA (oO 1 13) (yab _))
 intro _ a3 _ (S3 : Zt [_,_] [_])
 refine wp_cond_false (S3.bool 0 14 rfl) (wp_skip (thenN ?_))
 refine wq [Fw (ZN (fl ((A.natAbs : Nat) : Int) 2)) w, .put (.inl 2) (.box 29 ((ZN (fl ((A.natAbs : Nat) : Int) 2)) w.heap.size))] [.inr 0] [] S3 ?_ ?_
 ·exact jj2 (loA 1 wA yaa yah) (seA 0 wA (oO 0 17) yaa yao yah)
 intro _ a4 _ (S4 : Zt [_] [])
 refine wp_ret ?_
 exact yav S4 rfl (yau S4 0 2 rfl yaa yah)
theorem zd5 (w : World) (u : Value) (A : Int) (k : Nat) (h : Hs w (Zv A k) u) (hk : k ≤ 1073741824) (hA : A < 0) :
  CG 68 #[u] w (ZN (-(fl ((A.natAbs : Nat) : Int) 2))) := by
 have hpk := ydz h.now
 have hab : (digs ((A.natAbs : Nat) : Int).natAbs).length ≤ k := by rw [zfn]; exact hpk
 have hfl : (digs (fl ((A.natAbs : Nat) : Int) 2).natAbs).length ≤ k + 1 := yhf (by decide) hab
 have hsg : A.sign < 0 := by rw [zgk hA]; decide
 refine yan (sl := [(0, (Zv A k))]) Tryz.func68 rfl Tryz.ntmps68 (by simp) (yad rfl (h) yar) ?_
 intro a0 S0
 refine wq [.new (.box 29 (Zv A k)), .new (.box 29 zI)] [.inl 0, .inl 1] [] S0 ?_ ?_
 ·exact jj2 (bxA wA (oS 0 0) (ycz yak)) (nwA wA yal)
 intro _ a1 _ (S1 : Zt [_,_] [])
 refine wq [V (Zv A k), Fw (ZN (((A.natAbs : Nat) : Int))) w, Fw (ZN (2)) w, Fw (TWO (ZN (fl ((A.natAbs : Nat) : Int) 2)) (ZN (rm ((A.natAbs : Nat) : Int) 2))) w, Fw (TWO (ZN (fl ((A.natAbs : Nat) : Int) 2)) (ZN (rm ((A.natAbs : Nat) : Int) 2))) w, Fw (ZN (fl ((A.natAbs : Nat) : Int) 2)) w, Fw (ZN (rm ((A.natAbs : Nat) : Int) 2)) w, .new (.box 29 zI), .new (.box 29 zI), .put (.inr 7) (.box 29 ((ZN (fl ((A.natAbs : Nat) : Int) 2)) w.heap.size)), .put (.inr 8) (.box 29 ((ZN (rm ((A.natAbs : Nat) : Int) 2)) w.heap.size))] [.inr 0, .inr 1, .inl 7, .inl 8] [] S1 ?_ ?_
 ·exact ⟨⟨⟨jj8 (loA 0 wA yaa yak) (cc1 wA (qO 0 6 rfl) (yai _) (fun w u h1 => ywi (by omega) w u h1)) (cc1 wA (yab _) (yai _) (yki (2) (by omega) (by omega))) (cc2 wA (qO 1 7 rfl) (qO 2 8 rfl) (ybv (yai _) (yai _)) (fun w u v h1 h2 => ykh (ka := k) (kb := 1) (by decide) (by omega) w u v (ya4 hab _ _ h1) (ya4 (by decide) _ _ h2))) (mO 3 9) (e20 wA (oO 4 5)) (e21 wA (oO 4 5)) (nwA wA yal), nwA wA yal⟩, puA 7 wA (oO 5 10) yaa yao yah⟩, puA 8 wA (oO 6 11) yaa yao yah⟩
 intro _ a2 _ (S2 : Zt [_,_,_,_] [])
 refine wp_seq ?_
 refine wq [V (Zv A k), V (iV (A.sign)), kT] [.inr 1, .inr 2] [.inl 2] S2 ?_ ?_
 ·exact jj3 (loA 0 wA yaa yak) (cc1 wA (qO 0 12 rfl) (yaf _) (fun w u h1 => ydh (by omega) w u h1)) (ya7 wA (oO 1 13) (yab _))
 intro _ a3 _ (S3 : Zt [_,_] [_])
 refine wp_cond_true (S3.bool 0 14 rfl) ?_
 refine wq [Fw (ZN (fl ((A.natAbs : Nat) : Int) 2)) w, Fw (ZN (-(fl ((A.natAbs : Nat) : Int) 2))) w, .put (.inl 2) (.box 29 ((ZN (-(fl ((A.natAbs : Nat) : Int) 2))) w.heap.size))] [.inr 0] [] S3 ?_ ?_
 ·exact jj3 (loA 1 wA yaa yah) (cc1 wA (qO 0 15 rfl) (yai _) (fun w u h1 => za9 (ka := k + 1) (by omega) w u (ya4 hfl _ _ h1))) (seA 0 wA (oO 1 16) yaa yao yah)
 intro _ a4 _ (S4 : Zt [_] [])
 refine wp_ret (thenR ?_)
 exact yav S4 rfl (yau S4 0 2 rfl yaa yah)
theorem yoy {σ : Int} (hσ : σ = 1 ∨ σ = -1) {j k : Nat} (hk : k ≤ 1073741824) (hb : (digs (pw j)).length ≤ k) : ∀ w u lo, ZN (σ * ((hp (j + 1) : Nat) : Int)) lo u w → CG 68 #[u] w (ZN (σ * ((hp j : Nat) : Int))) := fun w u lo h => by
 have hpp := yhk j
 have e1 : (σ * ((hp (j + 1) : Nat) : Int)).natAbs = pw j := by
  rw [zft, zfn, show hp (j + 1) = pw j from rfl]
  rcases hσ with rfl | rfl
  ·exact zgf _
  ·exact zgf _
 have hz : Hs w (Zv (σ * ((hp (j + 1) : Nat) : Int)) k) u := (yuk (ya4 (by rw [e1]; exact hb) _ _ h)).hs
 rcases hσ with rfl | rfl
 ·refine Gives.cast (zd6 w u _ k hz hk (by rw [Int.one_mul]; exact Int.natCast_nonneg _)) ?_
  rw [e1, yr8, Int.one_mul]
 ·refine Gives.cast (zd5 w u _ k hz hk ?_) ?_
  ·rw [show hp (j + 1) = pw j from rfl]
   omega
  ·rw [e1, yr8]
   congr 1
   omega
abbrev yis (Kr : Nat) (rn : Int) (rd : Int) : Rk := .box 31 (PR (Zv rn Kr) (Zv rd Kr))
abbrev yit (nD : Nat) (nL : Nat) (K : Nat) (D : List Int) (L : List (List Int)) : Rk := .box 25 (SF [(Vv nD D K), (Mv nL L K)])
abbrev yhl  : Rk := .box 29 zI
abbrev yju (w : World) (σ : Int) (j0 : Nat) : Pr := (ZN (σ * ((pw j0 : Nat) : Int))) w.heap.size
theorem zas (w : World) (u t v r z : Value) (nD nL nT K Kt m Ks Kw Kr : Nat) (D : List Int) (L : List (List Int)) (ts : List (Int × Int)) (x : List Int) (rn rd zz σ : Int) (T : Nat) (h : Hs w (SF [Vv nD D K, Mv nL L K]) u) (ht : Hs w (QV nT ts Kt) t) (hv : Hs w (Vv m x Ks) v) (hr : Hs w (PR (Zv rn Kr) (Zv rd Kr)) r) (hz : Hs w (PI z (Zv zz Kw)) z) (hm0 : m ≤ 1048576) (hKs : Ks ≤ Kw) (hKw : Kw ≤ 1073741824) (hσ : σ = 1 ∨ σ = -1) (hst : (digs (4 * T + 2)).length ≤ Kw) (hzs : ∀ s : Nat, s ≤ 3 * T + 2 → (digs (zz + σ * ((s : Nat) : Int)).natAbs).length ≤ Kw) (hwt : ∀ s : Nat, s ≤ T → ∀ (w : World) (u t v r : Value), Hs w (SF [Vv nD D K, Mv nL L K]) u → Hs w (QV nT ts Kt) t → Hs w (Vv (m + 1) (x ++ [zz + σ * ((s : Nat) : Int)]) Kw) v → Hs w (PR (Zv rn Kr) (Zv rd Kr)) r → CG 36 #[u, t, v, r] w (IS (.bool true))) (hwf : ∀ s : Nat, T < s → s ≤ 3 * T + 2 → ∀ (w : World) (u t v r : Value), Hs w (SF [Vv nD D K, Mv nL L K]) u → Hs w (QV nT ts Kt) t → Hs w (Vv (m + 1) (x ++ [zz + σ * ((s : Nat) : Int)]) Kw) v → Hs w (PR (Zv rn Kr) (Zv rd Kr)) r → CG 36 #[u, t, v, r] w (IS (.bool false))) :
  CG 38 #[u, t, v, r, z, .int .i64 σ] w (OZ z zz σ T) := by
 have bst : ∀ s : Nat, s ≤ 4 * T + 2 → (digs (σ * ((s : Nat) : Int)).natAbs).length ≤ Kw := fun s hs => by
  refine ze6 (yae ?_) hst
  rw [zft, zfn]
  rcases hσ with rfl | rfl
  ·rw [show (1 : Int).natAbs = 1 from rfl, zgf]; exact hs
  ·rw [show (-1 : Int).natAbs = 1 from rfl, zgf]; exact hs
 refine yan (sl := [(0, (SF [(Vv nD D K), (Mv nL L K)])), (1, (QV nT ts Kt)), (2, (Vv m x Ks)), (3, (PR (Zv rn Kr) (Zv rd Kr))), (4, (PI z (Zv zz Kw))), (5, (iV σ))]) Tryz.func38 rfl Tryz.ntmps38 (by simp) (yad rfl (h) (yad rfl (ht) (yad rfl (hv) (yad rfl (hr) (yad rfl (hz) (yad rfl (yem _) yar)))))) ?_
 intro a0 S0
 refine wq [.new (yit nD nL K D L), .new (yis Kr rn rd), .new (.box 29 (PI z (Zv zz Kw))), .new (yhl)] [.inl 0, .inl 1, .inl 2, .inl 3] [.inr 1, .inr 2, .inr 5] S0 ?_ ?_
 ·exact jj4 (bxA wA (oS 0 0) (ybw yas)) (bxA wA (oS 3 3) (ycn (ya2 yak yak))) (bxA wA (oS 4 4) (ycz ylk)) (nwA wA yal)
 intro _ a1 _ (S1 : Zt [_,_,_,_] [_,_,_])
 refine wq [V (iV σ), Fw (ZN (σ * ((pw 0 : Nat) : Int))) w, .new (yhl), .put (.inr 2) (.box 29 ((ZN (σ * ((pw 0 : Nat) : Int))) w.heap.size))] [.inr 0, .inr 1, .inr 2, .inr 3, .inl 2] ur2 S1 ?_ ?_
 ·exact jj4 (mS 2 5) (cc1 wA (qO 0 14 rfl) (yai _) (fun w u0 h0 => Gives.cast (ψ := (ZN (σ * ((pw 0 : Nat) : Int)))) ((yki σ (by omega) (by omega)) w u0 h0) (by rw [show pw 0 = 1 from rfl, Int.natCast_one, Int.mul_one]))) (nwA wA yal) (puA 2 wA (oO 1 15) yaa yao yah)
 intro B2 a2 _ (S2 : Zt [_,_,_,_,_] [_,_])
 refine wp_seq (wp_block ?_)
 refine ya8 (fun (j0 : Nat) a W => (pw j0 ≤ 2 * T + 1) ∧ ∃ Bq, Sta w 46 [(6, (yit nD nL K D L)), (9, (yis Kr rn rd)), (10, (.box 29 (PI z (Zv zz Kw)))), (12, (yhl)), (13, (.box 29 (yju w σ j0)))] [(1, (QV nT ts Kt)), (2, Vv m x Ks)] Bq a W) (fun (j0 : Nat) => T + 1 - pw j0) ?_ 0 ⟨(by show 1 ≤ 2 * T + 1; omega), B2, S2.sub [0, 1, 2, 3, 4] [0, 1]⟩
 rintro j0 a3 _ ⟨hcond, _, S3⟩
 by_cases hlt : pw j0 ≤ T
 ·have hpp := yhk j0
  refine wp_seq ?_
  refine wq [V (SF [(Vv nD D K), (Mv nL L K)]), V (QV nT ts Kt), V (Vv m x Ks), V (PI z (Zv zz Kw)), V (yju w σ j0), Fw (ZN (zz + σ * ((pw j0 : Nat) : Int))) w, V (Vv (m + 1) (x ++ [zz + σ * ((pw j0 : Nat) : Int)]) Kw), V (PR (Zv rn Kr) (Zv rd Kr)), kT] ur5 (.inl 8 :: ur2) S3 ?_ ?_
  ·exact ⟨jj8 (loA 0 wA yat yas) (mS 0 1) (mS 1 2) (loA 2 wA yaa ylk) (loA 4 wA yaa yah) (cc2 wA (qO 3 19 rfl) (qO 4 20 rfl) (yai _) (fun w u v h1 h2 => yie (ka := Kw) (kb := Kw) (by omega) (by omega) w u v h1.2 (ya4 (bst _ (by omega)) _ _ h2))) (ycb rfl wA rfl (oO 2 18) (oO 5 21) rfl (fun args w => by go_simp) (fun B w u v _ hB h1 h2 => yfx (Ka := Kw) (by omega) hKs (ze5 _) B w u v hB h1 (fun w' e => ya4 (hzs (pw j0) (by omega)) _ _ (h2 w' e)))) (loA 1 wA yaj (ya2 yak yak)), ybj rfl wA rfl (oO 0 16) (oO 1 17) (oO 6 22) (oO 7 23) (yaf _) rfl (fun args w => by go_simp) (fun w u0 u1 u2 u3 h0 h1 h2 h3 => hwt (pw j0) hlt w u0 u1 u2 u3 h0 h1 h2 h3)⟩
  intro B4 a4 W4 (S4 : Zt [_,_,_,_,_] [_,_,_])
  refine wp_cond_true (S4.bool 0 24 rfl) (wp_skip (thenN (wp_block ?_)))
  refine wr [V (yju w σ j0), V (yju w σ j0), Fw (ZN (σ * ((pw (j0 + 1) : Nat) : Int))) w, .put (.inl 13) (.box 29 ((ZN (σ * ((pw (j0 + 1) : Nat) : Int))) w.heap.size))] ur5 [.inr 1, .inr 2] S4 ?_ ?_
  ·exact jj4 (loA 4 wA yaa yah) (loA 4 wA yaa yah) (cc2 wA (qO 0 25 rfl) (qO 1 26 rfl) (yai _) (fun w u v h1 h2 => Gives.cast (ψ := (ZN (σ * ((pw (j0 + 1) : Nat) : Int)))) (yie (ka := Kw) (kb := Kw) (by omega) (by omega) w u v (ya4 (bst _ (by omega)) _ _ h1) (ya4 (bst _ (by omega)) _ _ h2)) (by rw [zc9]))) (seA 4 wA (oO 2 27) yaa yah yah)
  intro B5 a5 W5 (S5 : Zt [_,_,_,_,_] [_,_])
  refine inBlkN (thenN ?_)
  exact ⟨j0 + 1, ⟨by show 2 * pw j0 ≤ _; omega, B5, S5.sub [0, 1, 2, 3, 4] [0, 1]⟩, by show T + 1 - 2 * pw j0 < _; omega⟩
 ·have hpp := yhk j0
  refine wp_seq ?_
  refine wq [V (SF [(Vv nD D K), (Mv nL L K)]), V (QV nT ts Kt), V (Vv m x Ks), V (PI z (Zv zz Kw)), V (yju w σ j0), Fw (ZN (zz + σ * ((pw j0 : Nat) : Int))) w, V (Vv (m + 1) (x ++ [zz + σ * ((pw j0 : Nat) : Int)]) Kw), V (PR (Zv rn Kr) (Zv rd Kr)), kF] ur5 (.inl 8 :: ur2) S3 ?_ ?_
  ·exact ⟨jj8 (loA 0 wA yat yas) (mS 0 1) (mS 1 2) (loA 2 wA yaa ylk) (loA 4 wA yaa yah) (cc2 wA (qO 3 19 rfl) (qO 4 20 rfl) (yai _) (fun w u v h1 h2 => yie (ka := Kw) (kb := Kw) (by omega) (by omega) w u v h1.2 (ya4 (bst _ (by omega)) _ _ h2))) (ycb rfl wA rfl (oO 2 18) (oO 5 21) rfl (fun args w => by go_simp) (fun B w u v _ hB h1 h2 => yfx (Ka := Kw) (by omega) hKs (ze5 _) B w u v hB h1 (fun w' e => ya4 (hzs (pw j0) (by omega)) _ _ (h2 w' e)))) (loA 1 wA yaj (ya2 yak yak)), ybj rfl wA rfl (oO 0 16) (oO 1 17) (oO 6 22) (oO 7 23) (yaf _) rfl (fun args w => by go_simp) (fun w u0 u1 u2 u3 h0 h1 h2 h3 => hwf (pw j0) (by omega) (by omega) w u0 u1 u2 u3 h0 h1 h2 h3)⟩
  intro B4 a4 W4 (S4 : Zt [_,_,_,_,_] [_,_,_])
  refine wp_cond_false (S4.bool 0 24 rfl) (wp_exit (thenX (thenX (inBlkE (thenN (wp_seq (wp_block ?_)))))))
  replace S4 : Sta w 46 [(6, (yit nD nL K D L)), (9, (yis Kr rn rd)), (10, (.box 29 (EZ z zz σ (yS T (j0 + 1)) Kw w.heap.size))), (12, (yhl)), (13, (.box 29 (yju w σ j0)))] [(24, bF), (1, (QV nT ts Kt)), (2, Vv m x Ks)] B4 a4 W4 := S4.reboxS 2 rfl (yuz (ze1 (by omega)))
  replace S4 : Sta w 46 [(6, (yit nD nL K D L)), (9, (yis Kr rn rd)), (10, (.box 29 (EZ z zz σ (yS T (j0 + 1)) Kw w.heap.size))), (12, (yhl)), (13, (.box 29 ((ZN (σ * ((hp (j0 + 1) : Nat) : Int))) w.heap.size)))] [(24, bF), (1, (QV nT ts Kt)), (2, Vv m x Ks)] B4 a4 W4 := S4.reboxS 4 rfl (fun v w h => h)
  refine ya8 (fun (j1 : Nat) a W => (pw j1 ≤ 4 * T + 2) ∧ ∃ Bq, Sta w 46 [(6, (yit nD nL K D L)), (9, (yis Kr rn rd)), (10, (.box 29 (EZ z zz σ (yS T j1) Kw w.heap.size))), (12, (yhl)), (13, (.box 29 ((ZN (σ * ((hp j1 : Nat) : Int))) w.heap.size)))] [(1, (QV nT ts Kt)), (2, Vv m x Ks)] Bq a W) (fun (j1 : Nat) => j1) ?_ (j0 + 1) ⟨(by show 2 * pw j0 ≤ _; omega), B4, S4.sub [0, 1, 2, 3, 4] [1, 2]⟩
  rintro j1 a5 W5 ⟨hcond, B5, S5⟩
  by_cases hj : j1 ≠ 0
  ·obtain ⟨j, rfl⟩ : ∃ j, j1 = j + 1 := ⟨j1 - 1, by omega⟩
   have hhp : hp (j + 1) = pw j := rfl
   have hpw : pw (j + 1) = 2 * pw j := rfl
   have hyl := y_le T (j + 1)
   have hsg := zbl hσ j
   refine wp_seq ?_
   refine wq [Fw (ZN (σ * ((hp (j + 1) : Nat) : Int))) w, V (Is (.int .i64 (σ * ((hp (j + 1) : Nat) : Int)).sign)), kT] ur5 (.inl 2 :: ur2) S5 ?_ ?_
   ·exact jj3 (loA 4 wA yaa yah) (cc1 wA (qO 0 28 rfl) (yaf _) (fun w u h => ydh (ka := Kw) (by omega) w u (ya4 (bst _ (by omega)) _ _ h))) (ybb wA (oO 1 29) (yab _) (h := hsg))
   intro B6 a6 W6 (S6 : Zt [_,_,_,_,_] [_,_,_])
   refine wp_cond_true (S6.bool 0 30 rfl) (wp_skip (thenN ?_))
   rcases zge T (yS T (j + 1) + pw j) with hT | hT
   ·skip
    refine wp_block (wp_seq ?_)
    refine wq [V (SF [(Vv nD D K), (Mv nL L K)]), V (QV nT ts Kt), V (Vv m x Ks), V (EZ z zz σ (yS T (j + 1)) Kw w.heap.size), Fw (ZN (σ * ((hp (j + 1) : Nat) : Int))) w, Fw (ZN (zz + σ * ((yS T (j + 1) + pw j : Nat) : Int))) w, V (Vv (m + 1) (x ++ [zz + σ * ((yS T (j + 1) + pw j : Nat) : Int)]) Kw), V (PR (Zv rn Kr) (Zv rd Kr)), kF] ur5 [.inl 8, .inr 1, .inr 2] S6 ?_ ?_
    ·exact ⟨jj8 (loA 0 wA yat yas) (mS 1 1) (mS 2 2) (loA 2 wA yaa yi2) (loA 4 wA yaa yah) (cc2 wA (qO 3 34 rfl) (qO 4 35 rfl) (yai _) (fun w u v h1 h2 => Gives.cast (ψ := (ZN (zz + σ * ((yS T (j + 1) + pw j : Nat) : Int)))) (yie (ka := Kw) (kb := Kw) (by omega) (by omega) w u v (yx4 (hzs _ (by omega)) _ _ h1) (ya4 (bst (hp (j + 1)) (by omega)) _ _ h2)) (by rw [hhp, ytz]))) (ycb rfl wA rfl (oO 2 33) (oO 5 36) rfl (fun args w => by go_simp) (fun B w u v _ hB h1 h2 => yfx (Ka := Kw) (by omega) hKs (ze5 _) B w u v hB h1 (fun w' e => ya4 (hzs (yS T (j + 1) + pw j) (by omega)) _ _ (h2 w' e)))) (loA 1 wA yaj (ya2 yak yak)), ybj rfl wA rfl (oO 0 31) (oO 1 32) (oO 6 37) (oO 7 38) (yaf _) rfl (fun args w => by go_simp) (fun w u0 u1 u2 u3 h0 h1 h2 h3 => hwf (yS T (j + 1) + pw j) (by omega) (by omega) w u0 u1 u2 u3 h0 h1 h2 h3)⟩
    intro B7 a7 W7 (S7 : Sta w 46 [(6, (yit nD nL K D L)), (9, (yis Kr rn rd)), (10, (.box 29 (EZ z zz σ (yS T (j + 1)) Kw w.heap.size))), (12, (yhl)), (13, (.box 29 ((ZN (σ * ((hp (j + 1) : Nat) : Int))) w.heap.size)))] [(39, bF), (1, (QV nT ts Kt)), (2, Vv m x Ks)] _ _ _)
    refine wp_cond_false (S7.bool 0 39 rfl) (wp_skip (thenN ?_))
    ·skip
     rw [← y_no hT] at S7
     refine wr [Fw (ZN (σ * ((hp (j + 1) : Nat) : Int))) w, Fw (ZN (σ * ((hp j : Nat) : Int))) w, .put (.inl 13) (.box 29 ((ZN (σ * ((hp j : Nat) : Int))) w.heap.size))] ur5 [.inr 1, .inr 2] S7 ?_ ?_
     ·exact jj3 (loA 4 wA yaa yah) (cc1 wA (qO 0 43 rfl) (yai _) (fun w u h => yoy hσ (k := Kw) (by omega) (ze6 (yae (by omega)) hst) w u _ h)) (seA 4 wA (oO 1 44) yaa yah yah)
     intro B8 a8 W8 (S8 : Zt [_,_,_,_,_] [_,_])
     refine inBlkN (thenN ?_)
     exact ⟨j, ⟨by omega, B8, S8.sub [0, 1, 2, 3, 4] [0, 1]⟩, by omega⟩
   ·skip
    refine wp_block (wp_seq ?_)
    refine wq [V (SF [(Vv nD D K), (Mv nL L K)]), V (QV nT ts Kt), V (Vv m x Ks), V (EZ z zz σ (yS T (j + 1)) Kw w.heap.size), Fw (ZN (σ * ((hp (j + 1) : Nat) : Int))) w, Fw (ZN (zz + σ * ((yS T (j + 1) + pw j : Nat) : Int))) w, V (Vv (m + 1) (x ++ [zz + σ * ((yS T (j + 1) + pw j : Nat) : Int)]) Kw), V (PR (Zv rn Kr) (Zv rd Kr)), kT] ur5 [.inl 8, .inr 1, .inr 2] S6 ?_ ?_
    ·exact ⟨jj8 (loA 0 wA yat yas) (mS 1 1) (mS 2 2) (loA 2 wA yaa yi2) (loA 4 wA yaa yah) (cc2 wA (qO 3 34 rfl) (qO 4 35 rfl) (yai _) (fun w u v h1 h2 => Gives.cast (ψ := (ZN (zz + σ * ((yS T (j + 1) + pw j : Nat) : Int)))) (yie (ka := Kw) (kb := Kw) (by omega) (by omega) w u v (yx4 (hzs _ (by omega)) _ _ h1) (ya4 (bst (hp (j + 1)) (by omega)) _ _ h2)) (by rw [hhp, ytz]))) (ycb rfl wA rfl (oO 2 33) (oO 5 36) rfl (fun args w => by go_simp) (fun B w u v _ hB h1 h2 => yfx (Ka := Kw) (by omega) hKs (ze5 _) B w u v hB h1 (fun w' e => ya4 (hzs (yS T (j + 1) + pw j) (by omega)) _ _ (h2 w' e)))) (loA 1 wA yaj (ya2 yak yak)), ybj rfl wA rfl (oO 0 31) (oO 1 32) (oO 6 37) (oO 7 38) (yaf _) rfl (fun args w => by go_simp) (fun w u0 u1 u2 u3 h0 h1 h2 h3 => hwt (yS T (j + 1) + pw j) hT w u0 u1 u2 u3 h0 h1 h2 h3)⟩
    intro B7 a7 W7 (S7 : Zt [_,_,_,_,_] [_,_,_])
    refine wp_cond_true (S7.bool 0 39 rfl) ?_
    refine wr [V (EZ z zz σ (yS T (j + 1)) Kw w.heap.size), Fw (ZN (σ * ((hp (j + 1) : Nat) : Int))) w, Fw (ZN (zz + σ * ((yS T j : Nat) : Int))) w, .put (.inl 10) (.box 29 ((ZN (zz + σ * ((yS T j : Nat) : Int))) w.heap.size))] ur5 [.inr 1, .inr 2] S7 ?_ ?_
    ·exact jj4 (loA 2 wA yaa yi2) (loA 4 wA yaa yah) (cc2 wA (qO 0 40 rfl) (qO 1 41 rfl) (yai _) (fun w u v h1 h2 => Gives.cast (ψ := (ZN (zz + σ * ((yS T j : Nat) : Int)))) (yie (ka := Kw) (kb := Kw) (by omega) (by omega) w u v (yx4 (hzs _ (by omega)) _ _ h1) (ya4 (bst (hp (j + 1)) (by omega)) _ _ h2)) (by rw [hhp, ytz, ← ze2 hT]))) (seA 2 wA (oO 2 42) yaa yi2 yah)
    intro B8 a8 W8 (S8 : Zt [_,_,_,_,_] [_,_])
    refine thenN ?_
    ·skip
     replace S8 : Sta w 46 [(6, (yit nD nL K D L)), (9, (yis Kr rn rd)), (10, (.box 29 (EZ z zz σ (yS T j) Kw w.heap.size))), (12, (yhl)), (13, (.box 29 ((ZN (σ * ((hp (j + 1) : Nat) : Int))) w.heap.size)))] [(1, (QV nT ts Kt)), (2, Vv m x Ks)] B8 a8 W8 := S8.reboxS 2 rfl zdw
     refine wr [Fw (ZN (σ * ((hp (j + 1) : Nat) : Int))) w, Fw (ZN (σ * ((hp j : Nat) : Int))) w, .put (.inl 13) (.box 29 ((ZN (σ * ((hp j : Nat) : Int))) w.heap.size))] ur5 ur2 S8 ?_ ?_
     ·exact jj3 (loA 4 wA yaa yah) (cc1 wA (qO 0 43 rfl) (yai _) (fun w u h => yoy hσ (k := Kw) (by omega) (ze6 (yae (by omega)) hst) w u _ h)) (seA 4 wA (oO 1 44) yaa yah yah)
     intro B9 a9 _ (S9 : Zt [_,_,_,_,_] [_,_])
     refine inBlkN (thenN ?_)
     exact ⟨j, ⟨by omega, B9, S9.sub [0, 1, 2, 3, 4] [0, 1]⟩, by omega⟩
  ·obtain rfl : j1 = 0 := by omega
   have hhp : hp 0 = 0 := rfl
   have hsg : (σ * ((hp 0 : Nat) : Int)).sign = 0 := by rw [hhp]; simp
   rw [y_0] at S5
   refine wp_seq ?_
   refine wq [Fw (ZN (σ * ((hp 0 : Nat) : Int))) w, V (Is (.int .i64 (σ * ((hp 0 : Nat) : Int)).sign)), kF] ur5 (.inl 2 :: ur2) S5 ?_ ?_
   ·exact jj3 (loA 4 wA yaa yah) (cc1 wA (qO 0 28 rfl) (yaf _) (fun w u h => ydh (ka := Kw) (by omega) w u (ya4 (bst _ (by omega)) _ _ h))) (ya0 wA (oO 1 29) (yab _) (h := hsg))
   intro B6 a6 W6 (S6 : Zt [_,_,_,_,_] [_,_,_])
   refine wp_cond_false (S6.bool 0 30 rfl) (wp_exit (thenX (thenX (inBlkE (thenN ?_)))))
   refine wq [V (EZ z zz σ (T) Kw w.heap.size), .put (.inl 12) (.box 29 (EZ z zz σ (T) Kw w.heap.size))] ur5 [.inr 1, .inr 2] S6 ?_ ?_
   ·exact jj2 (loA 2 wA yaa yi2) (seA 3 wA (oO 0 45) yaa yao yi2)
   intro B7 a7 W7 (S7 : Zt [_,_,_,_,_] [_,_])
   refine wp_ret ?_
   exact yav S7 rfl (by obtain ⟨v, h1, h2⟩ := yau S7 3 12 rfl yaa yi2; exact ⟨v, h1, zdv _ _ h2⟩)
theorem ywe {nD nL nT K Kt m Ks Kw Kr : Nat} {D : List Int} {L : List (List Int)} {ts : List (Int × Int)} {x : List Int} {rn rd zz σ : Int} {T : Nat} {lo : Nat} (hm0 : m ≤ 1048576) (hKs : Ks ≤ Kw) (hKw : Kw ≤ 1073741824) (hσ : σ = 1 ∨ σ = -1) (hst : (digs (4 * T + 2)).length ≤ Kw) (hzs : ∀ s : Nat, s ≤ 3 * T + 2 → (digs (zz + σ * ((s : Nat) : Int)).natAbs).length ≤ Kw) (hwt : ∀ s : Nat, s ≤ T → ∀ (w : World) (u t v r : Value), Hs w (SF [Vv nD D K, Mv nL L K]) u → Hs w (QV nT ts Kt) t → Hs w (Vv (m + 1) (x ++ [zz + σ * ((s : Nat) : Int)]) Kw) v → Hs w (PR (Zv rn Kr) (Zv rd Kr)) r → CG 36 #[u, t, v, r] w (IS (.bool true))) (hwf : ∀ s : Nat, T < s → s ≤ 3 * T + 2 → ∀ (w : World) (u t v r : Value), Hs w (SF [Vv nD D K, Mv nL L K]) u → Hs w (QV nT ts Kt) t → Hs w (Vv (m + 1) (x ++ [zz + σ * ((s : Nat) : Int)]) Kw) v → Hs w (PR (Zv rn Kr) (Zv rd Kr)) r → CG 36 #[u, t, v, r] w (IS (.bool false))) (B : Nat → Prop) (w : World) (u t v r z y : Value) (hlo : lo ≤ w.heap.size) (hB : ∀ k, B k → k < w.heap.size) (h : Has B w (SF [Vv nD D K, Mv nL L K]) u) (ht : Has B w (QV nT ts Kt) t) (hv : Has B w (Vv m x Ks) v) (hr : Has B w (PR (Zv rn Kr) (Zv rd Kr)) r) (hz : Has B w (ZN zz lo) z) (hy : Has B w (iV σ) y) :
  Calls Tryz.prog 38 #[u, t, v, r, z, y] w fun e w' => ∃ q, e = .returned q ∧ Below w.heap.size w w' ∧ Has B w' (ZN (zz + σ * ((T : Nat) : Int)) lo) q := by
 obtain rfl : y = _ := hy.now
 have hbz : (digs zz.natAbs).length ≤ Kw := by have q := hzs 0 (by omega); simpa using q
 have hz2 : Hs w (PI z (Zv zz Kw)) z := fun w' e => ⟨rfl, ya4 hbz _ _ (hz w' (e.mono (fun _ h => h.elim)))⟩
 have key := zas w u t v r z nD nL nT K Kt m Ks Kw Kr D L ts x rn rd zz σ T h.hs ht.hs hv.hs hr.hs hz2 hm0 hKs hKw hσ hst hzs hwt hwf
 refine key.mono ?_
 rintro e w' ⟨q, rfl, hb, hq⟩
 refine ⟨q, rfl, hb, fun w'' e'' => ?_⟩
 have ev : Ev B w w'' := (Ev.of_below hb).back (fun _ _ h => h) e''
 rcases hq with ⟨rfl, hT⟩ | hq
 ·rw [hT, show zz + σ * ((0 : Nat) : Int) = zz by simp]
  exact hz w'' ev
 ·exact (yai _).mono _ _ _ _ hlo ((yai _).ev _ _ _ _ B hB hq e'')
theorem zen (w : World) (u t v r : Value) (nD nL nT K Kt m Ks Kw Kr : Nat) (D : List Int) (L : List (List Int)) (ts : List (Int × Int)) (x : List Int) (rn rd zz lo hi cn : Int) (qc : Nat) (h : Hs w (SF [Vv nD D K, Mv nL L K]) u) (ht : Hs w (QV nT ts Kt) t) (hv : Hs w (Vv m x Ks) v) (hr : Hs w (PR (Zv rn Kr) (Zv rd Kr)) r) (hm0 : m ≤ 1048576) (hKs : Ks ≤ Kw) (hKw : Kw ≤ 1073741824) (hqc : qc ≠ 0) (bcn : (digs cn.natAbs).length ≤ 1048577) (bqc : (digs qc).length ≤ 1048577) (ez : nr (nR cn qc) ((dR cn qc : Nat) : Int) = zz) (bz : (digs zz.natAbs).length ≤ Kw) (hce : ∀ (w : World) (u t v : Value), Hs w (SF [Vv nD D K, Mv nL L K]) u → Hs w (QV nT ts Kt) t → Hs w (Vv m x Ks) v → CG 12 #[u, t, v] w (QQ cn qc)) (hout : ∀ a : Int, a < lo ∨ hi < a → (digs a.natAbs).length ≤ Kw → ∀ (w : World) (u t v r : Value), Hs w (SF [Vv nD D K, Mv nL L K]) u → Hs w (QV nT ts Kt) t → Hs w (Vv (m + 1) (x ++ [a]) Kw) v → Hs w (PR (Zv rn Kr) (Zv rd Kr)) r → CG 36 #[u, t, v, r] w (IS (.bool false))) (hz : zz < lo ∨ hi < zz) :
  CG 16 #[u, t, v, r] w (THREE (IS (.agg #[.bool false, .slice none 0 0])) (IS (.agg #[.bool false, .slice none 0 0])) (IS (.bool false))) := by
 refine yan (sl := [(0, (SF [(Vv nD D K), (Mv nL L K)])), (1, (QV nT ts Kt)), (2, (Vv m x Ks)), (3, (PR (Zv rn Kr) (Zv rd Kr)))]) Tryz.func16 rfl Tryz.ntmps16 (by simp) (yad rfl (h) (yad rfl (ht) (yad rfl (hv) (yad rfl (hr) yar)))) ?_
 intro a0 S0
 refine wq [.new (.box 25 (SF [(Vv nD D K), (Mv nL L K)])), .new (.box 31 (PR (Zv rn Kr) (Zv rd Kr))), .new (.box 29 zI), .new (.box 29 zI), kF] [.inl 0, .inl 1, .inl 2, .inl 3] [.inr 1, .inr 2] S0 ?_ ?_
 ·exact jj5 (bxA wA (oS 0 0) (ybw yas)) (bxA wA (oS 3 3) (ycn (ya2 yak yak))) (nwA wA yal) (nwA wA yal) mC
 intro _ a1 _ (S1 : Zt [_,_,_,_] [_,_])
 refine wq [V (SF [(Vv nD D K), (Mv nL L K)]), V (QV nT ts Kt), V (Vv m x Ks), Fw (QQ cn qc) w, Fw (ZN (zz)) w, .new (.box 29 zI), .put (.inr 5) (.box 29 ((ZN (zz)) w.heap.size))] [.inr 0, .inr 1, .inr 2, .inr 3, .inl 5] ur2 S1 ?_ ?_
 ·repeat' refine And.intro ?_ ?_
  ·trivial
  ·exact loA 0 wA yat yas
  ·exact mS 0 1
  ·exact mS 1 2
  ·exact ch3 wA (qO 0 12 rfl) (qO 1 13 rfl) (qO 2 14 rfl) (ybi _ _) (fun w u0 u1 u2 h0 h1 h2 => hce w u0 u1 u2 h0 h1 h2)
  ·exact cc1 wA (qO 3 15 rfl) (yai _) (fun w u h => Gives.cast (ψ := ZN zz) (yo0 (k1 := 1048577) (k2 := 1048577) (yeh hqc) (ze5 _) (ze5 _) w u (yi6 bcn bqc _ _ h)) (by rw [ez]))
  ·exact nwA wA yal
  ·exact puA 5 wA (oO 4 16) yaa yao yah
 intro _ a2 _ (S2 : Zt [_,_,_,_,_] [_,_])
 refine wp_seq ?_
 refine wq [V (SF [(Vv nD D K), (Mv nL L K)]), V (QV nT ts Kt), V (Vv m x Ks), Fw (ZN (zz)) w, V (Vv (m + 1) (x ++ [zz]) Kw), V (PR (Zv rn Kr) (Zv rd Kr)), kF, kT] ur5 (.inl 7 :: ur2) S2 ?_ ?_
 ·repeat' refine And.intro ?_ ?_
  ·trivial
  ·exact loA 0 wA yat yas
  ·exact mS 0 1
  ·exact mS 1 2
  ·exact loA 4 wA yaa yah
  ·exact ycb rfl wA rfl (oO 2 19) (oO 3 20) rfl (fun args w => by go_simp) (fun B w u v _ hB h1 h2 => yfx (Ka := Kw) (by omega) hKs (ze5 _) B w u v hB h1 (fun w' e => ya4 bz _ _ (h2 w' e)))
  ·exact loA 1 wA yaj (ya2 yak yak)
  ·exact ybj rfl wA rfl (oO 0 17) (oO 1 18) (oO 4 21) (oO 5 22) (yaf _) rfl (fun args w => by go_simp) (fun w u0 u1 u2 u3 h0 h1 h2 h3 => hout zz hz bz w u0 u1 u2 u3 h0 h1 h2 h3)
  ·exact ydb wA (oO 6 23)
 intro _ a3 _ (S3 : Zt [_,_,_,_,_] [_,_,_])
 refine wp_cond_true (S3.bool 0 24 rfl) ?_
 refine wq [.val zI, .val zI, .put (.inl 8) (.box 29 zI), .put (.inl 9) (.box 29 zI), kF] [.inr 0, .inr 2, .inr 3] [.inl 4] S3 ?_ ?_
 ·exact jj5 (ybd rfl wA rfl rfl) (ybd rfl wA rfl rfl) (seA 2 wA (oO 0 25) yaa yao yao) (seA 3 wA (oO 1 26) yaa yao yao) mC
 intro _ a4 _ (S4 : Zt [_,_,_] [_])
 refine wp_ret (thenR ?_)
 exact yfb S4 rfl (yau S4 1 8 rfl yaa yao) (yau S4 2 9 rfl yaa yao) (yaw S4 0 10 rfl)
theorem zeo (w : World) (u t v r : Value) (nD nL nT K Kt m Ks Kw Kr : Nat) (D : List Int) (L : List (List Int)) (ts : List (Int × Int)) (x : List Int) (rn rd zz lo hi cn : Int) (qc : Nat) (h : Hs w (SF [Vv nD D K, Mv nL L K]) u) (ht : Hs w (QV nT ts Kt) t) (hv : Hs w (Vv m x Ks) v) (hr : Hs w (PR (Zv rn Kr) (Zv rd Kr)) r) (hm0 : m ≤ 1048576) (hKs : Ks ≤ Kw) (hKw : Kw ≤ 1073741824) (hqc : qc ≠ 0) (bcn : (digs cn.natAbs).length ≤ 1048577) (bqc : (digs qc).length ≤ 1048577) (ez : nr (nR cn qc) ((dR cn qc : Nat) : Int) = zz) (bz : (digs zz.natAbs).length ≤ Kw) (hce : ∀ (w : World) (u t v : Value), Hs w (SF [Vv nD D K, Mv nL L K]) u → Hs w (QV nT ts Kt) t → Hs w (Vv m x Ks) v → CG 12 #[u, t, v] w (QQ cn qc)) (hin : ∀ a : Int, lo ≤ a → a ≤ hi → ∀ (w : World) (u t v r : Value), Hs w (SF [Vv nD D K, Mv nL L K]) u → Hs w (QV nT ts Kt) t → Hs w (Vv (m + 1) (x ++ [a]) Kw) v → Hs w (PR (Zv rn Kr) (Zv rd Kr)) r → CG 36 #[u, t, v, r] w (IS (.bool true))) (hout : ∀ a : Int, a < lo ∨ hi < a → (digs a.natAbs).length ≤ Kw → ∀ (w : World) (u t v r : Value), Hs w (SF [Vv nD D K, Mv nL L K]) u → Hs w (QV nT ts Kt) t → Hs w (Vv (m + 1) (x ++ [a]) Kw) v → Hs w (PR (Zv rn Kr) (Zv rd Kr)) r → CG 36 #[u, t, v, r] w (IS (.bool false))) (hl : lo ≤ zz) (hh : zz ≤ hi) (Tl Th : Nat) (el : zz + (-1) * ((Tl : Nat) : Int) = lo) (eh : zz + 1 * ((Th : Nat) : Int) = hi) (hsTl : (digs (4 * Tl + 2)).length ≤ Kw) (hbTl : ∀ s : Nat, s ≤ 3 * Tl + 2 → (digs (zz + (-1) * ((s : Nat) : Int)).natAbs).length ≤ Kw) (hsTh : (digs (4 * Th + 2)).length ≤ Kw) (hbTh : ∀ s : Nat, s ≤ 3 * Th + 2 → (digs (zz + 1 * ((s : Nat) : Int)).natAbs).length ≤ Kw) :
  CG 16 #[u, t, v, r] w (THREE (ZN (zz + (-1) * ((Tl : Nat) : Int))) (ZN (zz + 1 * ((Th : Nat) : Int))) (IS (.bool true))) := by
 refine yan (sl := [(0, (SF [(Vv nD D K), (Mv nL L K)])), (1, (QV nT ts Kt)), (2, (Vv m x Ks)), (3, (PR (Zv rn Kr) (Zv rd Kr)))]) Tryz.func16 rfl Tryz.ntmps16 (by simp) (yad rfl (h) (yad rfl (ht) (yad rfl (hv) (yad rfl (hr) yar)))) ?_
 intro a0 S0
 refine wq [.new (.box 25 (SF [(Vv nD D K), (Mv nL L K)])), .new (.box 31 (PR (Zv rn Kr) (Zv rd Kr))), .new (.box 29 zI), .new (.box 29 zI), kF] [.inl 0, .inl 1, .inl 2, .inl 3] [.inr 1, .inr 2] S0 ?_ ?_
 ·exact jj5 (bxA wA (oS 0 0) (ybw yas)) (bxA wA (oS 3 3) (ycn (ya2 yak yak))) (nwA wA yal) (nwA wA yal) mC
 intro _ a1 _ (S1 : Zt [_,_,_,_] [_,_])
 refine wq [V (SF [(Vv nD D K), (Mv nL L K)]), V (QV nT ts Kt), V (Vv m x Ks), Fw (QQ cn qc) w, Fw (ZN (zz)) w, .new (.box 29 zI), .put (.inr 5) (.box 29 ((ZN (zz)) w.heap.size))] [.inr 0, .inr 1, .inr 2, .inr 3, .inl 5] ur2 S1 ?_ ?_
 ·repeat' refine And.intro ?_ ?_
  ·trivial
  ·exact loA 0 wA yat yas
  ·exact mS 0 1
  ·exact mS 1 2
  ·exact ch3 wA (qO 0 12 rfl) (qO 1 13 rfl) (qO 2 14 rfl) (ybi _ _) (fun w u0 u1 u2 h0 h1 h2 => hce w u0 u1 u2 h0 h1 h2)
  ·exact cc1 wA (qO 3 15 rfl) (yai _) (fun w u h => Gives.cast (ψ := ZN zz) (yo0 (k1 := 1048577) (k2 := 1048577) (yeh hqc) (ze5 _) (ze5 _) w u (yi6 bcn bqc _ _ h)) (by rw [ez]))
  ·exact nwA wA yal
  ·exact puA 5 wA (oO 4 16) yaa yao yah
 intro _ a2 _ (S2 : Zt [_,_,_,_,_] [_,_])
 refine wp_seq ?_
 refine wq [V (SF [(Vv nD D K), (Mv nL L K)]), V (QV nT ts Kt), V (Vv m x Ks), Fw (ZN (zz)) w, V (Vv (m + 1) (x ++ [zz]) Kw), V (PR (Zv rn Kr) (Zv rd Kr)), kT, kF] ur5 (.inl 7 :: ur2) S2 ?_ ?_
 ·repeat' refine And.intro ?_ ?_
  ·trivial
  ·exact loA 0 wA yat yas
  ·exact mS 0 1
  ·exact mS 1 2
  ·exact loA 4 wA yaa yah
  ·exact ycb rfl wA rfl (oO 2 19) (oO 3 20) rfl (fun args w => by go_simp) (fun B w u v _ hB h1 h2 => yfx (Ka := Kw) (by omega) hKs (ze5 _) B w u v hB h1 (fun w' e => ya4 bz _ _ (h2 w' e)))
  ·exact loA 1 wA yaj (ya2 yak yak)
  ·exact ybj rfl wA rfl (oO 0 17) (oO 1 18) (oO 4 21) (oO 5 22) (yaf _) rfl (fun args w => by go_simp) (fun w u0 u1 u2 u3 h0 h1 h2 h3 => hin zz hl hh w u0 u1 u2 u3 h0 h1 h2 h3)
  ·exact ydb wA (oO 6 23)
 intro _ a3 _ (S3 : Zt [_,_,_,_,_] [_,_,_])
 refine wp_cond_false (S3.bool 0 24 rfl) (wp_skip (thenN ?_))
 refine wq [V (SF [(Vv nD D K), (Mv nL L K)]), V (QV nT ts Kt), V (Vv m x Ks), V (PR (Zv rn Kr) (Zv rd Kr)), Fw (ZN (zz)) w, Fw (ZN (zz + (-1) * ((Tl : Nat) : Int))) w, V (SF [(Vv nD D K), (Mv nL L K)]), V (QV nT ts Kt), V (Vv m x Ks), V (PR (Zv rn Kr) (Zv rd Kr)), Fw (ZN (zz)) w, Fw (ZN (zz + 1 * ((Th : Nat) : Int))) w, .put (.inl 8) (.box 29 ((ZN (zz + (-1) * ((Tl : Nat) : Int))) w.heap.size)), .put (.inl 9) (.box 29 ((ZN (zz + 1 * ((Th : Nat) : Int))) w.heap.size)), kT] [.inr 0, .inr 2, .inr 3] [.inl 14] S3 ?_ ?_
 ·exact ⟨⟨⟨⟨⟨⟨⟨jj8 (loA 0 wA yat yas) (mS 1 1) (mS 2 2) (loA 1 wA yaj (ya2 yak yak)) (loA 4 wA yaa yah) (yjm rfl wA rfl (oO 0 27) (oO 1 28) (oO 2 29) (oO 3 30) (oO 4 31) (yab _) rfl (fun args w => by go_simp) (fun B w u1 u2 u3 u4 u5 u6 hlo hB q1 q2 q3 q4 q5 q6 => ywe (T := Tl) (σ := (-1)) hm0 hKs hKw (by decide) hsTl hbTl (fun s hs => hin _ (by omega) (by omega)) (fun s hs h3 => hout _ (by omega) (hbTl s h3)) B w u1 u2 u3 u4 u5 u6 hlo hB q1 q2 q3 q4 q5 q6)) (loA 0 wA yat yas) (mS 1 1), mS 2 2⟩, loA 1 wA yaj (ya2 yak yak)⟩, loA 4 wA yaa yah⟩, yjm rfl wA rfl (oO 6 33) (oO 7 34) (oO 8 35) (oO 9 36) (oO 10 37) (yab _) rfl (fun args w => by go_simp) (fun B w u1 u2 u3 u4 u5 u6 hlo hB q1 q2 q3 q4 q5 q6 => ywe (T := Th) (σ := 1) hm0 hKs hKw (by decide) hsTh hbTh (fun s hs => hin _ (by omega) (by omega)) (fun s hs h3 => hout _ (by omega) (hbTh s h3)) B w u1 u2 u3 u4 u5 u6 hlo hB q1 q2 q3 q4 q5 q6)⟩, seA 2 wA (oO 5 32) yaa yao yah⟩, seA 3 wA (oO 11 38) yaa yao yah⟩, mC⟩
 intro _ a4 _ (S4 : Zt [_,_,_] [_])
 refine wp_ret ?_
 exact yfb S4 rfl (yau S4 1 8 rfl yaa yah) (yau S4 2 9 rfl yaa yah) (yaw S4 0 10 rfl)
end Go.Proofs.YtbkobojhkhiohaaGreat
