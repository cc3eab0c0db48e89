import Derived.Test.YtdnindaohpdblaaGreatRsK
set_option linter.all false
namespace Go.Proofs.YtdnindaohpdblaaGreat
open Go Go.RowKit Nt
set_option maxRecDepth 20000
set_option maxHeartbeats 16000000

theorem yst (w : World) (A : Int) (D k1 k2 : Nat) (u : Value) (h : Rv A (D : Int) k1 k2 u w) (hk1 : k1 ≤ 8388608) (hk2 : k2 ≤ 8388608) (hB : (D : Int) ≠ 0) :
  CG 63 #[u] w (ZN (fl A (D : Int))) := by
 refine yan (sl := [(0, (PR (Zv A k1) (Zv ((D : Int)) k2)))]) Tryz.func63 rfl Tryz.ntmps63 (by simp) (yai rfl (yo8 h) yar) ?_
 intro a0 S0
 refine wq [.new (.box 26 (PR (Zv A k1) (Zv ((D : Int)) k2))), .new (.box 24 zI)] [.inl 0, .inl 1] [] S0 ?_ ?_
 ·exact jj2 (bxA wA (oS 0 0) (yb6 (yau yah yah))) (nwA wA yak)
 intro _ a1 _ (S1 : Zt [_,_] [])
 refine wq [V (Part a1 1 0), V (Zv A k1), V (Part a1 1 2), V (Zv ((D : Int)) k2), Fw (TWO (ZN (fl A ((D : Int)))) (ZN (rm A ((D : Int))))) w, Fw (TWO (ZN (fl A ((D : Int)))) (ZN (rm A ((D : Int))))) w, Fw (ZN (fl A ((D : Int)))) w, Fw (ZN (rm A ((D : Int)))) w, .new (.box 24 zI), .new (.box 24 zI), .put (.inr 8) (.box 24 ((ZN (fl A ((D : Int)))) w.heap.size)), .put (.inr 9) (.box 24 ((ZN (rm A ((D : Int)))) w.heap.size))] [.inr 0, .inr 1, .inl 8, .inl 9] [] S1 ?_ ?_
 ·exact ⟨⟨⟨⟨jj8 (ptZ wA 0 ydr) (plA wA (oO 0 6) 0 rfl rfl yem) (ptA wA 0 ycg) (plA wA (oO 2 8) 0 rfl rfl ych) (cc2 wA (qO 1 7 rfl) (qO 3 9 rfl) (ybl (yae _) (yae _)) (fun w u v h1 h2 => yug hB (by omega) w u v ((fun _ _ h => h) _ _ h1) ((fun _ _ h => h) _ _ h2))) (mO 4 10) (e20 wA (oO 5 5)) (e21 wA (oO 5 5)), nwA wA yak⟩, nwA wA yak⟩, puA 8 wA (oO 6 11) yaa yao yad⟩, puA 9 wA (oO 7 12) yaa yao yad⟩
 intro _ a2 _ (S2 : Zt [_,_,_,_] [])
 refine wq [Fw (ZN (fl A ((D : Int)))) w, .put (.inl 2) (.box 24 ((ZN (fl A ((D : Int)))) w.heap.size))] ur4 [] S2 ?_ ?_
 ·exact jj2 (loA 2 wA yaa yad) (seA 1 wA (oO 0 13) yaa yao yad)
 intro _ a3 _ (S3 : Zt [_,_,_,_] [])
 refine wp_ret ?_
 exact yaz S3 rfl (yaw S3 1 2 rfl yaa yad)
theorem yre {A : Int} {D k1 k2 : Nat} (hD : D ≠ 0) (hk1 : k1 ≤ 8388608) (hk2 : k2 ≤ 8388608) : ∀ w u, Rv A (D : Int) k1 k2 u w → CG 63 #[u] w (ZN (fl A (D : Int))) := fun w u h => yst w A D k1 k2 u h hk1 hk2 (by omega)
theorem yyw (w : World) :
  CG 64 #[] w (PRF (ZN (1)) (ZN (2))) := by
 refine yan (sl := []) Tryz.func64 rfl Tryz.ntmps64 (by simp) yar ?_
 intro a0 S0
 refine wq [.new (.box 26 zR)] [.inl 0] [] S0 ?_ ?_
 ·exact jj1 (nwA wA yc5)
 intro _ a1 _ (S1 : Zt [_] [])
 refine wq [Fw (ZN (1)) w, Fw (ZN (2)) w, V (PR ((ZN (1)) w.heap.size) ((ZN (2)) w.heap.size)), .put (.inl 0) (.box 26 (PR ((ZN (1)) w.heap.size) ((ZN (2)) w.heap.size)))] [.inr 0] [] S1 ?_ ?_
 ·exact jj4 (yd3 rfl wA rfl  (yae _) rfl (fun args w => by go_simp) zac) (cc1 wA (yab _) (yae _) (yki 2 (by decide) (by decide))) (yg4 rfl wA rfl (oO 0 1) (oO 1 2) yad yad rfl) (seA 0 wA (oO 2 3) yaq yfr (yau yad yad))
 intro _ a2 _ (S2 : Zt [_] [])
 refine wp_ret ?_
 exact yaz S2 rfl (yaw S2 0 0 rfl yaq (yau yad yad))
theorem yx1 : ∀ w, CG 64 #[] w (RN 1 2) := fun w => yyw w
theorem yu9 (w : World) (A : Int) (D k1 k2 : Nat) (u : Value) (h : Rv A (D : Int) k1 k2 u w) (hk1 : k1 ≤ 1048577) (hk2 : k2 ≤ 1048577) (hD : D ≠ 0) (nx : Int) (dx : Nat) (ex : nR (A * ((2 : Nat) : Int) + 1 * ((D : Nat) : Int)) (D * 2) = nx) (ey : dR (A * ((2 : Nat) : Int) + 1 * ((D : Nat) : Int)) (D * 2) = dx) (lx : (digs nx.natAbs).length ≤ 8388608) (ly : (digs dx).length ≤ 8388608) (zx : dx ≠ 0) (ef : fl nx ((dx : Nat) : Int) = nr A (D : Int)) :
  CG 32 #[u] w (ZN (nr A (D : Int))) := by
 have l1i : (digs (1 : Int).natAbs).length ≤ 1 := ygc (by decide)
 have l2 : (digs 2).length ≤ 1 := yam (by decide)
 have l1 : (digs 1).length ≤ 1 := yam (by decide)
 refine yan (sl := [(0, (PR (Zv A k1) (Zv ((D : Int)) k2)))]) Tryz.func32 rfl Tryz.ntmps32 (by simp) (yai rfl (yo8 h) yar) ?_
 intro a0 S0
 refine wq [.new (.box 26 (PR (Zv A k1) (Zv ((D : Int)) k2))), .new (.box 24 zI)] [.inl 0, .inl 1] [] S0 ?_ ?_
 ·exact jj2 (bxA wA (oS 0 0) (yb6 (yau yah yah))) (nwA wA yak)
 intro _ a1 _ (S1 : Zt [_,_] [])
 refine wq [V (PR (Zv A k1) (Zv ((D : Int)) k2)), Fw (RN 1 2) w, Fw (RN nx dx) w, Fw (ZN (nr A (D : Int))) w, .put (.inl 2) (.box 24 ((ZN (nr A (D : Int))) w.heap.size))] ur2 [] S1 ?_ ?_
 ·exact jj5 (loA 0 wA yaq (yau yah yah)) (yd3 rfl wA rfl  (yb3 _ _) rfl (fun args w => by go_simp) yx1) (cc2 wA (qO 0 3 rfl) (qO 1 4 rfl) (yb3 _ _) (fun w u0 u1 h0 h1 => Gives.cast ((fun w u v h1 h2 => yx2 (by first | assumption | decide) (by first | assumption | decide) (by omega) (by omega) (by omega) (by omega) w u v ((ymj (fun _ _ h => h) (fun _ _ h => h)) _ _ h1) ((yfm l1i l2) _ _ h2)) w u0 u1 h0 h1) (by rw [ex, ey]))) (cc1 wA (qO 2 5 rfl) (yae _) (fun w u0 h0 => Gives.cast ((fun w u h1 => yre (by assumption) (by omega) (by omega) w u ((yfm lx ly) _ _ h1)) w u0 h0) (by rw [ef]))) (seA 1 wA (oO 3 6) yaa yao yad)
 intro _ a2 _ (S2 : Zt [_,_] [])
 refine wp_ret ?_
 exact yaz S2 rfl (yaw S2 1 2 rfl yaa yad)
theorem yur {A : Int} {D : Nat} (hD : D ≠ 0) : fl (A * ((2 : Nat) : Int) + 1 * ((D : Nat) : Int)) ((D * 2 : Nat) : Int) = nr A (D : Int) := by
 unfold nr
 rw [show A * ((2 : Nat) : Int) + 1 * ((D : Nat) : Int) = 2 * A + (D : Int) from by grind, show ((D * 2 : Nat) : Int) = 2 * (D : Int) from by rw [zed]; grind]
theorem yfe {A : Int} {D k1 k2 : Nat} (hD : D ≠ 0) (hk1 : k1 ≤ 1048577) (hk2 : k2 ≤ 1048577) : ∀ w u, Rv A (D : Int) k1 k2 u w → CG 32 #[u] w (ZN (nr A (D : Int))) := fun w u h => by
 have D2 : D * 2 ≠ 0 := by omega
 obtain ⟨lA, lD⟩ : (digs A.natAbs).length ≤ 1048577 ∧ (digs D).length ≤ 1048577 := by
  obtain ⟨_, _, _, _, _, a, b⟩ := h
  have := ytt a; have := ytt b; rw [zeo] at this; omega
 refine yu9 w A D k1 k2 u h hk1 hk2 hD _ _ rfl rfl (za1 ?_) (yz3 ?_) (yt6 D2) ((yz8 D2).trans (yur hD))
 ·exact zdv (yxg (N := 1) (M := 2) lA lD (l := 1) (ygc (by decide)) (yam (by decide))) (by decide)
 ·exact zdv (yyb lD (l := 1) (yam (by decide))) (by decide)
end Go.Proofs.YtdnindaohpdblaaGreat
