import Derived.Test.YtdiagoaakadniaaGreatRsK
import Derived.Test.YtdiagoaakadniaaGreatSetR
namespace Go.Proofs.YtdiagoaakadniaaGreat
open Go Go.RowKit Nt
set_option linter.unusedSimpArgs false
set_option linter.unusedVariables false
set_option maxRecDepth 20000
set_option maxHeartbeats 16000000
theorem g_rmake {A : Int} {D k k' : Nat} (hD : D ≠ 0) (hk : k ≤ 67108864) (hk' : k' ≤ 67108864) : ∀ w u v, Zv A k u w → Zv (D : Int) k' v w → Calls Tryz.prog 31 #[u, v] w (Gives (RN (nR A D) (dR A D)) w) := by
 rintro w u v ⟨s, p, n, c, xs, rfl, h, rfl, hn⟩ ⟨t, q, m, d, ys, rfl, h', eD, hm⟩
 obtain ⟨rfl, rfl⟩ := yko eD hD
 rw [nR_sg, dR_sg]
 exact yh6 (yop w s p q n c m d xs ys h h' hD (by omega) (by omega))
theorem yhz {A : Int} {k : Nat} {u : Value} {w : World} (h : Zv A k u w) : (digs A.natAbs).length ≤ k := by
 obtain ⟨s, p, n, c, xs, rfl, h1, rfl, h2⟩ := h
 exact Nat.le_trans (sg_dl h1) h2
theorem rmulq_w (w : World) (u v : Value) (A : Int) (N : Int) (D M k1 k2 k3 k4 : Nat) (h : Hs w (Rv A (D : Int) k1 k2) u) (hv : Hs w (Rv N (M : Int) k3 k4) v) (hD : D ≠ 0) (hM : M ≠ 0) (b1 : k1 ≤ 8388608) (b2 : k2 ≤ 8388608) (b3 : k3 ≤ 8388608) (b4 : k4 ≤ 8388608) :
  Calls Tryz.prog 10 #[u, v] w (Gives (RN (nR (A * N) (D * M)) (dR (A * N) (D * M))) w) := by
 have hz : D * M ≠ 0 := Nat.mul_ne_zero hD hM
 obtain ⟨x0, x1, y0, y1, _, ha, hd⟩ := h.now
 obtain ⟨x0', x1', y0', y1', _, hn, hm⟩ := hv.now
 have dA := yhz ha
 have dD := yhz hd
 have dN := yhz hn
 have dM := yhz hm
 have hq1 : (digs (A * N).natAbs).length ≤ 16777216 := by rw [Int.natAbs_mul]; exact Nat.le_trans (yap dA dN) (by omega)
 have hq2 : (digs ((D * M : Nat) : Int).natAbs).length ≤ 16777216 := by rw [Int.natCast_mul, Int.natAbs_mul]; exact Nat.le_trans (yap dD dM) (by omega)
 refine yam (sl := [(0, (PR (Zv A k1) (Zv ((D : Int)) k2))), (1, (PR (Zv N k3) (Zv ((M : Int)) k4)))]) Tryz.func10 rfl Tryz.ntmps10 (by simp) (yab rfl (h) (yab rfl (hv) yaq)) ?_
 intro a0 S0
 refine wq [.new (.box 28 (PR (Zv A k1) (Zv ((D : Int)) k2))), .new (.box 28 (PR (Zv N k3) (Zv ((M : Int)) k4))), .new (.box 28 zR)] [.inl 0, .inl 1, .inl 2] [] S0 ?_ ?_
 ·apply jj3
  ·exact ycr rfl wA rfl (oS 0 0) rfl (fun ρ w h => yep (ych ybc ybc) ρ _ _ w h)
  ·exact ycr rfl wA rfl (oS 1 1) rfl (fun ρ w h => yep (ych ybc ybc) ρ _ _ w h)
  ·exact yat rfl wA rfl rfl (fun ρ w => ybd ρ _ w)
 intro _ a1 _ (S1 : Sta w 16 [(2, (.box 28 (PR (Zv A k1) (Zv ((D : Int)) k2)))), (3, (.box 28 (PR (Zv N k3) (Zv ((M : Int)) k4)))), (4, (.box 28 zR))] [] _ _ _)
 refine wq [.val (Part a1 2 0), .val (Zv A k1), .val (Part a1 3 0), .val (Zv N k3), .val ((ZN (A * N)) w.heap.size), .val (Part a1 2 2), .val (Zv ((D : Int)) k2), .val (Part a1 3 2), .val (Zv ((M : Int)) k4), .val ((ZN (((D * M : Nat) : Int))) w.heap.size), .val ((RN (nR (A * N) (D * M)) (dR (A * N) (D * M))) w.heap.size), .put (.inl 4) (.box 28 ((RN (nR (A * N) (D * M)) (dR (A * N) (D * M))) w.heap.size))] [.inr 2] [] S1 ?_ ?_
 ·repeat' refine And.intro ?_ ?_
  ·trivial
  ·exact ya2 rfl wA rfl (k := 0) rfl (by kernel_rfl) rfl (fun ρ w b h => ydl ρ _ _ w b 0 h)
  ·exact yav rfl wA rfl (oO 0 5) (k := 0) rfl (by kernel_rfl) rfl (fun ρ w b u h1 h2 h3 => ydm ρ _ _ w b u h1 h2 h3)
  ·exact ya2 rfl wA rfl (k := 1) rfl (by kernel_rfl) rfl (fun ρ w b h => ydl ρ _ _ w b 0 h)
  ·exact yav rfl wA rfl (oO 2 7) (k := 1) rfl (by kernel_rfl) rfl (fun ρ w b u h1 h2 h3 => ydm ρ _ _ w b u h1 h2 h3)
  ·exact cc2 wA (qO 1 6 rfl) (qO 3 8 rfl) (ya1 _) (fun w u v h1 h2 => yms (by omega) w u v ((fun _ _ h => h) _ _ h1) ((fun _ _ h => h) _ _ h2))
  ·exact ya2 rfl wA rfl (k := 0) rfl (by kernel_rfl) rfl (fun ρ w b h => ycj ρ _ _ w b 0 h)
  ·exact yav rfl wA rfl (oO 5 10) (k := 0) rfl (by kernel_rfl) rfl (fun ρ w b u h1 h2 h3 => yck ρ _ _ w b u h1 h2 h3)
  ·exact ya2 rfl wA rfl (k := 1) rfl (by kernel_rfl) rfl (fun ρ w b h => ycj ρ _ _ w b 0 h)
  ·exact yav rfl wA rfl (oO 7 12) (k := 1) rfl (by kernel_rfl) rfl (fun ρ w b u h1 h2 h3 => yck ρ _ _ w b u h1 h2 h3)
  ·exact cc2 wA (qO 6 11 rfl) (qO 8 13 rfl) (ya1 _) (fun w u0 u1 h0 h1 => Gives.cast (ψ := (ZN (((D * M : Nat) : Int)))) ((fun w u v h1 h2 => yms (by omega) w u v ((fun _ _ h => h) _ _ h1) ((fun _ _ h => h) _ _ h2)) w u0 u1 h0 h1) (by rw [Int.natCast_mul]))
  ·exact cc2 wA (qO 4 9 rfl) (qO 9 14 rfl) (yk1 _ _) (fun w u v h1 h2 => g_rmake hz (by omega) (by omega) w u v ((ycy hq1) _ _ h1) ((ycy hq2) _ _ h2))
  ·exact ya7 rfl wA rfl (k := 2) rfl (by kernel_rfl) (oO 10 15) (yaf yah ybr (ych ya0 ya0)) rfl
 intro _ a2 _ (S2 : Sta w 16 [(4, (.box 28 ((RN (nR (A * N) (D * M)) (dR (A * N) (D * M))) w.heap.size)))] [] _ _ _)
 refine wp_ret ?_
 exact ybe S2 rfl (ybb S2 0 4 rfl yah (ych ya0 ya0))
end Go.Proofs.YtdiagoaakadniaaGreat
