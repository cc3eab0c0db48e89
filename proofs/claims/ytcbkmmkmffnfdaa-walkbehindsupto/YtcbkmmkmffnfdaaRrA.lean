import Derived.Test.YtcbkmmkmffnfdaaRsK
import Derived.Test.YtcbkmmkmffnfdaaSetR
/-
 More of the document's rationals and of the laws' questions, in the form that the logic of statements takes.
-/
namespace Go.Proofs.Ytcbkmmkmffnfdaa
open Go Go.RowKit Nt
set_option linter.unusedSimpArgs false
set_option linter.unusedVariables false

theorem g_rmake {A : Int} {D k k' : Nat} (hD : D ≠ 0) (hk : k ≤ 67108864) (hk' : k' ≤ 67108864) : ∀ w u v, Zv A k u w → Zv (D : Int) k' v w → Calls Try.prog 32 #[u, v] w (Gives (RN (nR A D) (dR A D)) w) := by
 rintro w u v ⟨s, p, n, c, xs, rfl, h, rfl, hn⟩ ⟨t, q, m, d, ys, rfl, h', eD, hm⟩
 obtain ⟨rfl, rfl⟩ := zv_pos eD hD
 rw [nR_sg, dR_sg]
 exact rt_gives (rmake_c w s p q n c m d xs ys h h' hD (by omega) (by omega))
/-! Rounded. -/
theorem fl_scale {P : Int} {G D : Nat} (hG : G ≠ 0) (hD : D ≠ 0) : fl ((G : Int) * P) ((G * D : Nat) : Int) = fl P (D : Int) := by
 have iD : (D : Int) ≠ 0 := by omega
 obtain ⟨e, h1, _⟩ := rm_bounds (A := P) iD
 have h1 := h1 (by omega)
 obtain ⟨r, hr⟩ : ∃ r, rm P (D : Int) = r := ⟨_, rfl⟩
 obtain ⟨q, hq⟩ : ∃ q, fl P (D : Int) = q := ⟨_, rfl⟩
 rw [hr] at h1
 rw [hq, hr] at e
 rw [hq]
 have gp : (0 : Int) < (G : Int) := by omega
 have m1 : (G : Int) * r < (G : Int) * (D : Int) := Int.mul_lt_mul_of_pos_left h1.2 gp
 have m0 : 0 ≤ (G : Int) * r := Int.mul_nonneg (by omega) h1.1
 have mD : 0 < (G : Int) * (D : Int) := Int.mul_pos gp (by omega)
 refine (fl_unique (r := (G : Int) * r) ?_ ?_ (fun hp => ?_) (fun hp => ?_)).1
 ·rw [Int.natCast_mul]; omega
 ·rw [Int.natCast_mul, e]; grind
 ·rw [Int.natCast_mul]; omega
 ·rw [Int.natCast_mul] at hp; omega
theorem fl_low {P : Int} {Y : Nat} (hY : Y ≠ 0) : fl (nR P Y) (dR P Y : Int) = fl P (Y : Int) := by
 have hg : Nat.gcd P.natAbs Y ≠ 0 := fun e => hY (Nat.eq_zero_of_gcd_eq_zero_right e)
 have := fl_scale (P := nR P Y) hg (dR_ne (X := P) hY)
 rw [g_nR, g_dR] at this
 exact this.symm
end Go.Proofs.Ytcbkmmkmffnfdaa

/-
 The document's product of rationals, and quotient by one above nought.
-/
namespace Go.Proofs.Ytcbkmmkmffnfdaa
open Go Go.RowKit Nt
set_option linter.unusedSimpArgs false
set_option linter.unusedVariables false

theorem zv_dlR {A : Int} {k : Nat} {u : Value} {w : World} (h : Zv A k u w) : (digs A.natAbs).length ≤ k := by
 obtain ⟨s, p, n, c, xs, rfl, h1, rfl, h2⟩ := h
 exact Nat.le_trans (sg_dl h1) h2

set_option maxHeartbeats 1000000 in
theorem rmulq_w (w : World) (u v : Value) (A : Int) (N : Int) (D M k1 k2 k3 k4 : Nat) (h : Hs w (Rv A (D : Int) k1 k2) u) (hv : Hs w (Rv N (M : Int) k3 k4) v) (hD : D ≠ 0) (hM : M ≠ 0) (b1 : k1 ≤ 8388608) (b2 : k2 ≤ 8388608) (b3 : k3 ≤ 8388608) (b4 : k4 ≤ 8388608) :
  Calls Try.prog 16 #[u, v] w (Gives (RN (nR (A * N) (D * M)) (dR (A * N) (D * M))) w) := by
 have hz : D * M ≠ 0 := Nat.mul_ne_zero hD hM
 obtain ⟨x0, x1, y0, y1, _, ha, hd⟩ := h.now
 obtain ⟨x0', x1', y0', y1', _, hn, hm⟩ := hv.now
 have dA := zv_dlR ha
 have dD := zv_dlR hd
 have dN := zv_dlR hn
 have dM := zv_dlR hm
 have hq1 : (digs (A * N).natAbs).length ≤ 16777216 := by rw [Int.natAbs_mul]; exact Nat.le_trans (digs_mul_len dA dN) (by omega)
 have hq2 : (digs ((D * M : Nat) : Int).natAbs).length ≤ 16777216 := by rw [Int.natCast_mul, Int.natAbs_mul]; exact Nat.le_trans (digs_mul_len dD dM) (by omega)
 refine calls_sta (sl := [(0, (PR (Zv A k1) (Zv ((D : Int)) k2))), (1, (PR (Zv N k3) (Zv ((M : Int)) k4)))]) Try.func16 rfl Try.ntmps16 (by simp) (args_cons rfl (h) (args_cons rfl (hv) args_nil)) ?_
 intro a0 S0
 refine wq [.new (.box 26 (PR (Zv A k1) (Zv ((D : Int)) k2))), .new (.box 26 (PR (Zv N k3) (Zv ((M : Int)) k4))), .new (.box 26 zR)] [.inl 0, .inl 1, .inl 2] [] S0 ?_ ?_
 ·apply jj3
  ·exact owe_box rfl wA rfl (oS 0 0) rfl (fun ρ w h => box_rat (shp_pr shp_zv shp_zv) ρ _ _ w h)
  ·exact owe_box rfl wA rfl (oS 1 1) rfl (fun ρ w h => box_rat (shp_pr shp_zv shp_zv) ρ _ _ w h)
  ·exact owe_new rfl wA rfl rfl (fun ρ w => alloc_rat ρ _ w)
 intro _ a1 _ (S1 : Sta w 16 [(2, (.box 26 (PR (Zv A k1) (Zv ((D : Int)) k2)))), (3, (.box 26 (PR (Zv N k3) (Zv ((M : Int)) k4)))), (4, (.box 26 zR))] [] _ _ _)
 refine wq [.val (Part a1 2 0), .val (Zv A k1), .val (Part a1 3 0), .val (Zv N k3), .val ((ZN (A * N)) w.heap.size), .val (Part a1 2 2), .val (Zv ((D : Int)) k2), .val (Part a1 3 2), .val (Zv ((M : Int)) k4), .val ((ZN (((D * M : Nat) : Int))) w.heap.size), .val ((RN (nR (A * N) (D * M)) (dR (A * N) (D * M))) w.heap.size), .put (.inl 4) (.box 26 ((RN (nR (A * N) (D * M)) (dR (A * N) (D * M))) w.heap.size))] [.inr 2] [] S1 ?_ ?_
 ·repeat' refine And.intro ?_ ?_
  ·trivial
  ·exact owe_part rfl wA rfl (k := 0) rfl (by kernel_rfl) rfl (fun ρ w b h => part_rat0 ρ _ _ w b 0 h)
  ·exact owe_pload rfl wA rfl (oO 0 5) (k := 0) rfl (by kernel_rfl) rfl (fun ρ w b u h1 h2 h3 => pload_num ρ _ _ w b u h1 h2 h3)
  ·exact owe_part rfl wA rfl (k := 1) rfl (by kernel_rfl) rfl (fun ρ w b h => part_rat0 ρ _ _ w b 0 h)
  ·exact owe_pload rfl wA rfl (oO 2 7) (k := 1) rfl (by kernel_rfl) rfl (fun ρ w b u h1 h2 h3 => pload_num ρ _ _ w b u h1 h2 h3)
  ·exact cc2 wA (qO 1 6 rfl) (qO 3 8 rfl) (fresh_zn _) (fun w u v h1 h2 => g_rmul (by omega) w u v ((fun _ _ h => h) _ _ h1) ((fun _ _ h => h) _ _ h2))
  ·exact owe_part rfl wA rfl (k := 0) rfl (by kernel_rfl) rfl (fun ρ w b h => part_rat1 ρ _ _ w b 0 h)
  ·exact owe_pload rfl wA rfl (oO 5 10) (k := 0) rfl (by kernel_rfl) rfl (fun ρ w b u h1 h2 h3 => pload_den ρ _ _ w b u h1 h2 h3)
  ·exact owe_part rfl wA rfl (k := 1) rfl (by kernel_rfl) rfl (fun ρ w b h => part_rat1 ρ _ _ w b 0 h)
  ·exact owe_pload rfl wA rfl (oO 7 12) (k := 1) rfl (by kernel_rfl) rfl (fun ρ w b u h1 h2 h3 => pload_den ρ _ _ w b u h1 h2 h3)
  ·exact cc2 wA (qO 6 11 rfl) (qO 8 13 rfl) (fresh_zn _) (fun w u0 u1 h0 h1 => Gives.cast (ψ := (ZN (((D * M : Nat) : Int)))) ((fun w u v h1 h2 => g_rmul (by omega) w u v ((fun _ _ h => h) _ _ h1) ((fun _ _ h => h) _ _ h2)) w u0 u1 h0 h1) (by rw [Int.natCast_mul]))
  ·exact cc2 wA (qO 4 9 rfl) (qO 9 14 rfl) (fresh_rn _ _) (fun w u v h1 h2 => g_rmake hz (by omega) (by omega) w u v ((zn_zv hq1) _ _ h1) ((zn_zv hq2) _ _ h2))
  ·exact owe_set rfl wA rfl (k := 2) rfl (by kernel_rfl) (oO 10 15) (stores_of strct_rat shp_r0 (shp_pr shp_zn shp_zn)) rfl
 intro _ a2 _ (S2 : Sta w 16 [(4, (.box 26 ((RN (nR (A * N) (D * M)) (dR (A * N) (D * M))) w.heap.size)))] [] _ _ _)
 refine wp_ret ?_
 exact end_one S2 rfl (res_cell S2 0 4 rfl strct_rat (shp_pr shp_zn shp_zn))

end Go.Proofs.Ytcbkmmkmffnfdaa
