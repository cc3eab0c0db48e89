import Derived.Test.YtaplbadcpbollaaGreatDoorRTextsWalk
/-
  Plain mathematics of RatThere: the text of a rational in lowest terms is read as that rational.
-/
namespace Go.Proofs.YtaplbadcpbollaaGreatDoor
open Go Go.RowKit Nt
set_option linter.unusedSimpArgs false
set_option linter.unusedVariables false
set_option maxRecDepth 20000

theorem low_gcd (A : Int) {D : Nat} (hD : D ≠ 0) : Nat.gcd (nR A D).natAbs (dR A D) = 1 := by
  have hg : 0 < Nat.gcd A.natAbs D := Nat.gcd_pos_of_pos_right _ (by omega)
  unfold nR dR
  rw [sg_abs, Nat.gcd_div (Nat.gcd_dvd_left _ _) (Nat.gcd_dvd_right _ _), Nat.div_self hg]
theorem sg_ng_abs (z : Int) : sg (ng z) z.natAbs = z := by
  unfold sg ng
  by_cases h : z < 0
  · simp [h]; omega
  · simp [h]; omega
theorem nR_low (A : Int) {D : Nat} (hD : D ≠ 0) : nR (nR A D) (dR A D) = nR A D := by
  show sg (ng (nR A D)) ((nR A D).natAbs / Nat.gcd (nR A D).natAbs (dR A D)) = nR A D
  rw [low_gcd A hD, Nat.div_one, sg_ng_abs]
theorem dR_low (A : Int) {D : Nat} (hD : D ≠ 0) : dR (nR A D) (dR A D) = dR A D := by
  show dR A D / Nat.gcd (nR A D).natAbs (dR A D) = dR A D
  rw [low_gcd A hD, Nat.div_one]
theorem dec_ne' (u : Nat) : Lib.decDigits u ≠ [] := by
  rw [Lib.decDigits]
  split <;> simp
theorem dec_dgB (u j : Nat) (h : j < (Lib.decDigits u).length) : dgB (bt (Lib.decDigits u) j) = true := by
  have hd := dec_digs u _ (List.getElem_mem h)
  have e : bt (Lib.decDigits u) j = ((Lib.decDigits u)[j]).toNat := by
    unfold bt
    rw [List.getD_eq_getElem?_getD, List.getElem?_eq_getElem h]
    rfl
  rw [e]
  unfold dig at hd
  exact dgB_iff.2 hd
theorem dec_bt0 {u : Nat} (h : 0 < u) : bt (Lib.decDigits u) 0 ≠ 48 := fun e => by
  have hu : (Lib.decDigits u).getD 0 0 ≠ 48 := by
    rcases Nat.lt_or_ge 1 (Lib.decDigits u).length with h1 | h1
    · exact dec_head u h1
    · by_cases hu : u < 10
      · rw [Lib.decDigits_one hu]
        show UInt8.ofNat (48 + u) ≠ 48
        intro e
        have e1 := congrArg UInt8.toNat e
        rw [ofNat_dig hu] at e1
        have : (48 : UInt8).toNat = 48 := rfl
        omega
      · rw [Lib.decDigits, dif_neg hu, List.length_append, List.length_singleton] at h1
        have := List.length_pos_iff.2 (dec_ne' (u / 10))
        omega
  exact hu (b48.2 e)
theorem dec_0 : Lib.decDigits 0 = [48] := by
  rw [Lib.decDigits_one (by omega)]
  rfl
theorem bt_appL {l r : List UInt8} {j : Nat} (h : j < l.length) : bt (l ++ r) j = bt l j := by
  unfold bt
  rw [List.getD_eq_getElem?_getD, List.getD_eq_getElem?_getD, List.getElem?_append_left h]
theorem bt_appR {l r : List UInt8} {j : Nat} : bt (l ++ r) (l.length + j) = bt r j := by
  unfold bt
  rw [List.getD_eq_getElem?_getD, List.getD_eq_getElem?_getD, List.getElem?_append_right (by omega), Nat.add_sub_cancel_left]
theorem drop_app {l r : List UInt8} : (l ++ r).drop l.length = r := by simp
/-- The digits of a number behind some text, and what comes behind them. -/
theorem ne_dec (f : List UInt8) (u : Nat) (r : List UInt8) (z : Bool) (hz : u = 0 → z = true) (hr : r ≠ [] → dgB (bt r 0) = false) : NE (f ++ Lib.decDigits u ++ r) f.length z (f.length + (Lib.decDigits u).length) := by
  have hp := List.length_pos_iff.2 (dec_ne' u)
  have hb : ∀ j, j < (Lib.decDigits u).length → bt (f ++ Lib.decDigits u ++ r) (f.length + j) = bt (Lib.decDigits u) j := fun j hj => by
    rw [bt_appL (by simp; omega), bt_appR]
  have hlen : (f ++ Lib.decDigits u ++ r).length = f.length + (Lib.decDigits u).length + r.length := by simp; omega
  by_cases hu : u = 0
  · subst hu
    refine Or.inl ⟨by omega, ?_, ?_⟩
    · have := hb 0 hp
      rw [Nat.add_zero] at this
      rw [this, dec_0]
      rfl
    · rw [hz rfl, dec_0]; simp
  · refine Or.inr ⟨fun h => ?_, by omega, by omega, fun j h1 h2 => ?_, fun h => ?_⟩
    · have h0 := hb 0 hp
      rw [Nat.add_zero, h.2] at h0
      exact dec_bt0 (by omega) h0.symm
    · have := hb (j - f.length) (by omega)
      rw [show f.length + (j - f.length) = j by omega] at this
      rw [this]
      exact dec_dgB u _ (by omega)
    · have e := bt_appR (l := f ++ Lib.decDigits u) (r := r) (j := 0)
      rw [Nat.add_zero, List.length_append] at e
      rw [e]
      exact hr (fun er => by subst er; simp at h)
theorem txZ_cases (n : Int) : (n < 0 ∧ txZ n = [45] ++ Lib.decDigits n.natAbs ∧ sg true n.natAbs = n) ∨ (0 ≤ n ∧ txZ n = [] ++ Lib.decDigits n.natAbs ∧ sg false n.natAbs = n) := by
  by_cases h : n < 0
  · exact Or.inl ⟨h, if_pos h, by simp [sg]; omega⟩
  · exact Or.inr ⟨by omega, if_neg h, by simp [sg]; omega⟩
theorem fr_txZ (n : Int) (r : List UInt8) : ∃ f : List UInt8, txZ n = f ++ Lib.decDigits n.natAbs ∧ Fr (txZ n ++ r) f.length ∧ sg (isN (txZ n ++ r)) n.natAbs = n ∧ (n.natAbs = 0 → (f.length == 0) = true) := by
  have hp := List.length_pos_iff.2 (dec_ne' n.natAbs)
  rcases txZ_cases n with ⟨h1, h2, h3⟩ | ⟨h1, h2, h3⟩
  · have hN : isN (txZ n ++ r) = true := by
      rw [h2]
      unfold isN
      have : bt ([45] ++ Lib.decDigits n.natAbs ++ r) 0 = 45 := rfl
      rw [this]
      simp
    exact ⟨[45], h2, Or.inl ⟨hN, rfl⟩, by rw [hN]; exact h3, fun h => by omega⟩
  · have hN : isN (txZ n ++ r) = false := by
      rw [h2]
      unfold isN
      have e : bt ([] ++ Lib.decDigits n.natAbs ++ r) 0 = bt (Lib.decDigits n.natAbs) 0 := by rw [List.nil_append]; exact bt_appL hp
      have := dgB_iff.1 (dec_dgB n.natAbs 0 hp)
      rw [e]
      have : ¬ bt (Lib.decDigits n.natAbs) 0 = 45 := by omega
      simp [this]
    exact ⟨[], h2, Or.inr ⟨hN, rfl⟩, by rw [hN]; exact h3, fun _ => rfl⟩
theorem txQ_rd {n : Int} {d : Nat} (hd : d ≠ 0) (hn : nR n d = n) (hdd : dR n d = d) (h : (txQ n d).length ≤ 131072) : RqIs (txQ n d) n d 0 0 := by
  have hp := List.length_pos_iff.2 (dec_ne' n.natAbs)
  by_cases h1 : d = 1
  · subst h1
    have e : txQ n 1 = txZ n := if_pos rfl
    obtain ⟨f, e1, e2, e3, e4⟩ := fr_txZ n []
    rw [List.append_nil] at e2 e3
    have h5 := ne_dec f n.natAbs [] (f.length == 0) e4 (fun h => absurd rfl h)
    rw [List.append_nil, ← e1] at h5
    have hl : (txZ n).length = f.length + (Lib.decDigits n.natAbs).length := by rw [e1, List.length_append]
    rw [e] at h ⊢
    have := RqIs.whole (l := txZ n) f.length h e2 (by rw [hl]; exact h5) (by omega)
    rw [show (txZ n).drop f.length = Lib.decDigits n.natAbs from by rw [e1]; exact drop_app, decV_dec, e3] at this
    exact this
  · have e : txQ n d = txZ n ++ [47] ++ Lib.decDigits d := by
      unfold txQ
      rw [if_neg h1]
      congr 1
    have hpd := List.length_pos_iff.2 (dec_ne' d)
    obtain ⟨f, e1, e2, e3, e4⟩ := fr_txZ n ([47] ++ Lib.decDigits d)
    rw [← List.append_assoc, ← e] at e2 e3
    have hl : (txZ n).length = f.length + (Lib.decDigits n.natAbs).length := by rw [e1, List.length_append]
    have h5 := ne_dec f n.natAbs ([47] ++ Lib.decDigits d) (f.length == 0) e4 (fun _ => by have e7 : bt ([47] ++ Lib.decDigits d) 0 = 47 := rfl; rw [e7]; decide)
    rw [← e1, ← List.append_assoc, ← e, ← hl] at h5
    have hlen : (txQ n d).length = (txZ n).length + 1 + (Lib.decDigits d).length := by rw [e]; simp; omega
    have h6 := ne_dec (txZ n ++ [47]) d [] false (fun h => absurd h hd) (fun h => absurd rfl h)
    have e47 : (txZ n ++ [47]).length = (txZ n).length + 1 := by simp
    rw [List.append_nil, ← e, e47, ← hlen] at h6
    have h7 : bt (txQ n d) (txZ n).length = 47 := by
      have := bt_appR (l := txZ n) (r := [47] ++ Lib.decDigits d) (j := 0)
      rw [← List.append_assoc, ← e, Nat.add_zero] at this
      rw [this]
      rfl
    have := RqIs.frac (l := txQ n d) f.length (txZ n).length h e2 h5 (by omega) (by omega) h7 h6 (by omega)
    have ea : ((txQ n d).drop f.length).take ((txZ n).length - f.length) = Lib.decDigits n.natAbs := by
      rw [e, e1, List.append_assoc, List.append_assoc, drop_app]
      simp
    have eb : (txQ n d).drop ((txZ n).length + 1) = Lib.decDigits d := by
      rw [e, show (txZ n).length + 1 = (txZ n ++ [47]).length from by simp]
      exact drop_app
    rw [ea, eb, decV_dec, decV_dec, e3, hn, hdd] at this
    exact this
end Go.Proofs.YtaplbadcpbollaaGreatDoor

/-
  RatThere's walk.
-/
namespace Go.Proofs.YtaplbadcpbollaaGreatDoor
open Go Go.RowKit Nt
set_option linter.unusedSimpArgs false
set_option linter.unusedVariables false
set_option maxRecDepth 20000


theorem g_same2 {N : Int} {D lo lo' : Nat} : ∀ w u v, RN N D lo u w → RN N D lo' v w → Calls Tryz.prog 10 #[u, v] w (Gives (IS (.bool true)) w) := fun w u v h1 h2 => g_same w u v h1 h2

set_option maxHeartbeats 4000000 in
theorem ratthere_y (w : World) (A : Int) (D k1 k2 : Nat) (u : Value) (h : Rv A (D : Int) k1 k2 u w) (hk1 : k1 ≤ 1048576) (hk2 : k2 ≤ 1048576) (hT : Tab w) (hD : D ≠ 0) (hmt : decide (0 < (D : Int).sign) = true) (hdn : dR A D ≠ 0) :
    Calls Tryz.prog 4 #[u] w (Gives (IS (.bool true)) w) := by
  refine calls_sta (sl := [(0, (PR (Zv A k1) (Zv ((D : Int)) k2)))]) Tryz.func4 rfl Tryz.ntmps4 (by simp) (args_cons rfl (rv_has h) args_nil) ?_
  intro a0 S0
  replace S0 : Sta w 60 [] [(0, (PR (Zv A k1) (Zv ((D : Int)) k2))), (1000001, TT)] (fun _ => False) a0 w := S0.moreT 1000001 (tt_has hT)
  refine wp_stmt_seq [.new (.box 26 (PR (Zv A k1) (Zv ((D : Int)) k2))), kF] [.inl 0] [.inr 1] follows S0 rfl (by kernel_rfl) ?_ ?_
  · refine ⟨⟨trivial, ?_⟩, ?_⟩
    · exact owe_box rfl wA rfl (oS 0 0) rfl (fun ρ w h => box_rat (shp_pr shp_zv shp_zv) ρ _ _ w h)
    · exact mC
  intro B1 a1 W1 (S1 : Sta w 60 [(1, (.box 26 (PR (Zv A k1) (Zv ((D : Int)) k2))))] [(1000001, TT)] _ _ _)
  refine wp_seq ?_
  refine wp_stmt_seq [kT, kF] [.inr 0] [.inl 1, .inr 0] follows S1 rfl (by kernel_rfl) ?_ ?_
  · refine ⟨⟨trivial, ?_⟩, ?_⟩
    · exact owe_call0 rfl wA rfl  (fresh_is _) rfl (fun args w => by go_simp) g_awake
    · exact b_not wA (oO 0 10)
  intro B2 a2 W2 (S2 : Sta w 60 [(1, (.box 26 (PR (Zv A k1) (Zv ((D : Int)) k2))))] [(11, bF), (1000001, TT)] _ _ _)
  refine wp_cond_false (S2.bool 0 11 rfl) ?_
  refine wp_skip ?_
  refine thenN ?_
  refine wp_stmt_seq [.val (PR (Zv A k1) (Zv ((D : Int)) k2)), .val ((TWO (IS (str (txQ (nR A D) (dR A D)))) (IS (.int .i64 0))) w.heap.size), .val ((TWO (IS (str (txQ (nR A D) (dR A D)))) (IS (.int .i64 0))) w.heap.size), .val (sV (txQ (nR A D) (dR A D))), .val (iV 0), .val (sV (txQ (nR A D) (dR A D))), .val (iV 0)] [.inr 0] [.inl 5, .inl 6, .inr 1] follows S2 rfl (by kernel_rfl) ?_ ?_
  · repeat' refine And.intro ?_ ?_
    · trivial
    · exact lod 0 wA (loads_of strct_rat (shp_pr shp_zv shp_zv))
    · exact owe_callh1 rfl wA rfl (opnd_tp ((oO 0 13).imp (pr_imp (fun _ _ h => h) (fun _ _ h => h))) (oS 1 1000001)) (fresh_two (fresh_is _) (fresh_is _)) rfl (fun args w => by go_simp) (fun w u h => g_qtext hk1 hk2 hD hmt w u (tp_out h).2 (tp_out h).1.now)
    · exact mO 1 14
    · exact e20 wA (oO 2 12)
    · exact e21 wA (oO 2 12)
    · exact mO 3 15
    · exact mO 4 16
  intro B3 a3 W3 (S3 : Sta w 60 [(1, (.box 26 (PR (Zv A k1) (Zv ((D : Int)) k2))))] [(3, sV (txQ (nR A D) (dR A D))), (4, iV 0), (1000001, TT)] _ _ _)
  refine wp_seq ?_
  refine wp_stmt_seq [.val (PR (Zv A k1) (Zv ((D : Int)) k2)), kT, kF] [.inr 0] [.inl 2, .inr 0, .inr 1, .inr 2] follows S3 rfl (by kernel_rfl) ?_ ?_
  · refine ⟨⟨⟨trivial, ?_⟩, ?_⟩, ?_⟩
    · exact lod 0 wA (loads_of strct_rat (shp_pr shp_zv shp_zv))
    · exact cc1 wA (qO 0 17 rfl) (fresh_is _) (fun w u h1 => by have := (fun w u h1 => g_rok (by omega) (by omega) w u ((pr_imp (fun _ _ h => h) (fun _ _ h => h)) _ _ h1)) w u h1; rw [hmt] at this; exact this)
    · exact b_not wA (oO 1 18)
  intro B4 a4 W4 (S4 : Sta w 60 [(1, (.box 26 (PR (Zv A k1) (Zv ((D : Int)) k2))))] [(19, bF), (3, sV (txQ (nR A D) (dR A D))), (4, iV 0), (1000001, TT)] _ _ _)
  refine wp_cond_false (S4.bool 0 19 rfl) ?_
  refine wp_skip ?_
  refine thenN ?_
  by_cases hlong : 131072 < (txQ (nR A D) (dR A D)).length
  · skip
    refine wp_seq ?_
    refine wp_stmt_seq [.val (sV (txQ (nR A D) (dR A D))), .val (Is (.int .i64 ((txQ (nR A D) (dR A D)).length : Nat))), kT] [.inr 0] [.inl 2, .inr 1, .inr 2, .inr 3] follows S4 rfl (by kernel_rfl) ?_ ?_
    · refine ⟨⟨⟨trivial, ?_⟩, ?_⟩, ?_⟩
      · exact mS 1 3
      · exact b_lens wA (oO 0 22)
      · exact b_gtr_int_t wA (oO 1 23) (opnd_const _)
    intro B5 a5 W5 (S5 : Sta w 60 [(1, (.box 26 (PR (Zv A k1) (Zv ((D : Int)) k2))))] [(24, bT), (3, sV (txQ (nR A D) (dR A D))), (4, iV 0), (1000001, TT)] _ _ _)
    refine wp_cond_true (S5.bool 0 24 rfl) ?_
    refine wp_stmt_seq [.val (iV 0), kT, kT] [] [.inl 2, .inr 3] follows S5 rfl (by kernel_rfl) ?_ ?_
    · refine ⟨⟨⟨trivial, ?_⟩, ?_⟩, ?_⟩
      · exact mS 2 4
      · exact b_eql_errno_t wA (oO 0 25) (opnd_const _) (h := rfl)
      · exact mO 1 26
    intro B6 a6 W6 (S6 : Sta w 60 [] [(2, bT), (1000001, TT)] _ _ _)
    refine wp_ret ?_
    refine thenR ?_
    exact end_one S6 rfl (res_tmp S6 0 2 rfl)
  · skip
    have hR := txQ_rd (n := nR A D) (d := dR A D) hdn (nR_low A hD) (dR_low A hD) (by omega)
    refine wp_seq ?_
    refine wp_stmt_seq [.val (sV (txQ (nR A D) (dR A D))), .val (Is (.int .i64 ((txQ (nR A D) (dR A D)).length : Nat))), kF] [.inr 0] [.inl 2, .inr 1, .inr 2, .inr 3] follows S4 rfl (by kernel_rfl) ?_ ?_
    · refine ⟨⟨⟨trivial, ?_⟩, ?_⟩, ?_⟩
      · exact mS 1 3
      · exact b_lens wA (oO 0 22)
      · exact b_gtr_int_f wA (oO 1 23) (opnd_const _)
    intro B5 a5 W5 (S5 : Sta w 60 [(1, (.box 26 (PR (Zv A k1) (Zv ((D : Int)) k2))))] [(24, bF), (3, sV (txQ (nR A D) (dR A D))), (4, iV 0), (1000001, TT)] _ _ _)
    refine wp_cond_false (S5.bool 0 24 rfl) ?_
    refine wp_skip ?_
    refine thenN ?_
    refine wp_stmt_seq [.val (sV (txQ (nR A D) (dR A D))), .val ((THREE (RN (nR A D) (dR A D)) (IS (.int .i64 0)) (IS (.int .i64 0))) w.heap.size), .val ((THREE (RN (nR A D) (dR A D)) (IS (.int .i64 0)) (IS (.int .i64 0))) w.heap.size), .val ((RN (nR A D) (dR A D)) w.heap.size), .val (iV 0), .val (iV 0), .new (.box 26 zR), .put (.inr 6) (.box 26 ((RN (nR A D) (dR A D)) w.heap.size)), .val (iV 0), .val (iV 0)] [.inr 0, .inl 6] [.inl 8, .inl 9, .inr 2, .inr 3] follows S5 rfl (by kernel_rfl) ?_ ?_
    · repeat' refine And.intro ?_ ?_
      · trivial
      · exact mS 1 3
      · exact ch1 wA (qO 0 28 rfl) (fresh_three (fresh_rn _ _) (fresh_is _) (fresh_is _)) (fun w u h => by have := h_rread hR w u h.now; rw [rq1 hdn] at this; exact this)
      · exact mO 1 29
      · exact e30 wA (oO 2 27)
      · exact e31 wA (oO 2 27)
      · exact e32 wA (oO 2 27)
      · exact owe_new rfl wA rfl rfl (fun ρ w => alloc_rat ρ _ w)
      · exact owe_put 6 rfl wA rfl (by kernel_rfl) rfl (oO 3 30) (stores_of strct_rat shp_r0 (shp_pr shp_zn shp_zn)) rfl
      · exact mO 4 31
      · exact mO 5 32
    intro B6 a6 W6 (S6 : Sta w 60 [(1, (.box 26 (PR (Zv A k1) (Zv ((D : Int)) k2)))), (5, (.box 26 ((RN (nR A D) (dR A D)) w.heap.size)))] [(6, iV 0), (7, iV 0), (4, iV 0), (1000001, TT)] _ _ _)
    refine wp_stmt_seq [.val (Part a6 1 0), .val (Zv A k1), .val (Part a6 1 2), .val (Zv ((D : Int)) k2), .val ((TWO (RN (nR A D) (dR A D)) (IS (.int .i64 0))) w.heap.size), .val ((TWO (RN (nR A D) (dR A D)) (IS (.int .i64 0))) w.heap.size), .val ((RN (nR A D) (dR A D)) w.heap.size), .val (iV 0), .new (.box 26 zR), .put (.inr 8) (.box 26 ((RN (nR A D) (dR A D)) w.heap.size)), .val (iV 0)] [.inr 1, .inl 8] [.inl 10, .inr 0, .inr 1, .inr 2, .inr 3] follows S6 rfl (by kernel_rfl) ?_ ?_
    · repeat' refine And.intro ?_ ?_
      · trivial
      · exact owe_part rfl wA rfl (k := 0) rfl (by kernel_rfl) rfl (fun ρ w b h => part_rat0 ρ _ _ w b 0 h)
      · exact owe_pload rfl wA rfl (oO 0 34) (k := 0) rfl (by kernel_rfl) rfl (fun ρ w b u h1 h2 h3 => pload_num ρ _ _ w b u h1 h2 h3)
      · exact owe_part rfl wA rfl (k := 0) rfl (by kernel_rfl) rfl (fun ρ w b h => part_rat1 ρ _ _ w b 0 h)
      · exact owe_pload rfl wA rfl (oO 2 36) (k := 0) rfl (by kernel_rfl) rfl (fun ρ w b u h1 h2 h3 => pload_den ρ _ _ w b u h1 h2 h3)
      · exact cc2 wA (qO 1 35 rfl) (qO 3 37 rfl) (fresh_two (fresh_rn _ _) (fresh_is _)) (fun w u v h1 h2 => g_ratmake hD (by omega) (by omega) w u v ((fun _ _ h => h) _ _ h1) ((fun _ _ h => h) _ _ h2))
      · exact mO 4 38
      · exact e20 wA (oO 5 33)
      · exact e21 wA (oO 5 33)
      · exact owe_new rfl wA rfl rfl (fun ρ w => alloc_rat ρ _ w)
      · exact owe_put 8 rfl wA rfl (by kernel_rfl) rfl (oO 6 39) (stores_of strct_rat shp_r0 (shp_pr shp_zn shp_zn)) rfl
      · exact mO 7 40
    intro B7 a7 W7 (S7 : Sta w 60 [(5, (.box 26 ((RN (nR A D) (dR A D)) w.heap.size))), (8, (.box 26 ((RN (nR A D) (dR A D)) w.heap.size)))] [(9, iV 0), (6, iV 0), (7, iV 0), (4, iV 0), (1000001, TT)] _ _ _)
    refine wp_stmt_seq [.val (iV 0), kT, kT, .val (iV 0), kT, kT, kT, .val (iV 0), kT, kT, kT, .val (iV 0), kT, kT, kT, .val ((RN (nR A D) (dR A D)) w.heap.size), .val ((RN (nR A D) (dR A D)) w.heap.size), kT, kT, kT] [] [.inl 19, .inr 4] follows S7 rfl (by kernel_rfl) ?_ ?_
    · repeat' refine And.intro ?_ ?_
      · trivial
      · exact mS 3 4
      · exact b_eql_errno_t wA (oO 0 41) (opnd_const _) (h := rfl)
      · exact mO 1 42
      · exact mW (wI 2 43) (oS 2 7)
      · exact b_eql_errno_t (wI 2 43) (oO 3 44) (opnd_const _) (h := rfl)
      · exact pT wA (oO 2 43) (oO 4 45)
      · exact mO 5 46
      · exact mW (wI 6 47) (oS 0 9)
      · exact b_eql_errno_t (wI 6 47) (oO 7 48) (opnd_const _) (h := rfl)
      · exact pT wA (oO 6 47) (oO 8 49)
      · exact mO 9 50
      · exact mW (wI 10 51) (oS 1 6)
      · exact b_eql_int_t (wI 10 51) (oO 11 52) (opnd_const _) (h := rfl)
      · exact pT wA (oO 10 51) (oO 12 53)
      · exact mO 13 54
      · exact lod 0 (wI 14 55) (loads_of strct_rat (shp_pr shp_zn shp_zn))
      · exact lod 1 (wI 14 55) (loads_of strct_rat (shp_pr shp_zn shp_zn))
      · exact cc2 (wI 14 55) (qO 15 56 rfl) (qO 16 57 rfl) (fresh_is _) g_same2
      · exact pT wA (oO 14 55) (oO 17 58)
      · exact mO 18 59
    intro B8 a8 W8 (S8 : Sta w 60 [] [(2, bT), (1000001, TT)] _ _ _)
    refine wp_ret ?_
    exact end_one S8 rfl (res_tmp S8 0 2 rfl)

set_option maxHeartbeats 4000000 in
theorem ratthere_n (w : World) (A D : Int) (k1 k2 : Nat) (u : Value) (h : Rv A D k1 k2 u w) (hk1 : k1 ≤ 1048576) (hk2 : k2 ≤ 1048576) (hT : Tab w) (hmf : decide (0 < D.sign) = false) :
    Calls Tryz.prog 4 #[u] w (Gives (IS (.bool true)) w) := by
  refine calls_sta (sl := [(0, (PR (Zv A k1) (Zv D k2)))]) Tryz.func4 rfl Tryz.ntmps4 (by simp) (args_cons rfl (rv_has h) args_nil) ?_
  intro a0 S0
  replace S0 : Sta w 60 [] [(0, (PR (Zv A k1) (Zv D k2))), (1000001, TT)] (fun _ => False) a0 w := S0.moreT 1000001 (tt_has hT)
  refine wp_stmt_seq [.new (.box 26 (PR (Zv A k1) (Zv D k2))), kF] [.inl 0] [.inr 1] follows S0 rfl (by kernel_rfl) ?_ ?_
  · refine ⟨⟨trivial, ?_⟩, ?_⟩
    · exact owe_box rfl wA rfl (oS 0 0) rfl (fun ρ w h => box_rat (shp_pr shp_zv shp_zv) ρ _ _ w h)
    · exact mC
  intro B1 a1 W1 (S1 : Sta w 60 [(1, (.box 26 (PR (Zv A k1) (Zv D k2))))] [(1000001, TT)] _ _ _)
  refine wp_seq ?_
  refine wp_stmt_seq [kT, kF] [.inr 0] [.inl 1, .inr 0] follows S1 rfl (by kernel_rfl) ?_ ?_
  · refine ⟨⟨trivial, ?_⟩, ?_⟩
    · exact owe_call0 rfl wA rfl  (fresh_is _) rfl (fun args w => by go_simp) g_awake
    · exact b_not wA (oO 0 10)
  intro B2 a2 W2 (S2 : Sta w 60 [(1, (.box 26 (PR (Zv A k1) (Zv D k2))))] [(11, bF), (1000001, TT)] _ _ _)
  refine wp_cond_false (S2.bool 0 11 rfl) ?_
  refine wp_skip ?_
  refine thenN ?_
  refine wp_stmt_seq [.val (PR (Zv A k1) (Zv D k2)), .val ((TWO (IS (str [])) (IS (.int .i64 30))) w.heap.size), .val ((TWO (IS (str [])) (IS (.int .i64 30))) w.heap.size), .val (Is (str [])), .val (iV 30), .val (Is (str [])), .val (iV 30)] [.inr 0] [.inl 5, .inl 6, .inr 1] follows S2 rfl (by kernel_rfl) ?_ ?_
  · repeat' refine And.intro ?_ ?_
    · trivial
    · exact lod 0 wA (loads_of strct_rat (shp_pr shp_zv shp_zv))
    · exact ch1 wA ((qO 0 13 rfl).imp (pr_imp (fun _ _ h => h) (fun _ _ h => h))) (fresh_two (fresh_is _) (fresh_is _)) (fun w u h => qtext_b w _ _ _ _ u h.now hk1 hk2 hmf)
    · exact mO 1 14
    · exact e20 wA (oO 2 12)
    · exact e21 wA (oO 2 12)
    · exact mO 3 15
    · exact mO 4 16
  intro B3 a3 W3 (S3 : Sta w 60 [(1, (.box 26 (PR (Zv A k1) (Zv D k2))))] [(3, Is (str [])), (4, iV 30), (1000001, TT)] _ _ _)
  refine wp_seq ?_
  refine wp_stmt_seq [.val (PR (Zv A k1) (Zv D k2)), kF, kT] [.inr 0] [.inl 2, .inr 0, .inr 1, .inr 2] follows S3 rfl (by kernel_rfl) ?_ ?_
  · refine ⟨⟨⟨trivial, ?_⟩, ?_⟩, ?_⟩
    · exact lod 0 wA (loads_of strct_rat (shp_pr shp_zv shp_zv))
    · exact cc1 wA (qO 0 17 rfl) (fresh_is _) (fun w u h1 => by have := (fun w u h1 => g_rok (by omega) (by omega) w u ((pr_imp (fun _ _ h => h) (fun _ _ h => h)) _ _ h1)) w u h1; rw [hmf] at this; exact this)
    · exact b_not wA (oO 1 18)
  intro B4 a4 W4 (S4 : Sta w 60 [(1, (.box 26 (PR (Zv A k1) (Zv D k2))))] [(19, bT), (3, Is (str [])), (4, iV 30), (1000001, TT)] _ _ _)
  refine wp_cond_true (S4.bool 0 19 rfl) ?_
  refine wp_stmt_seq [.val (iV 30), kT, kT] [] [.inl 2, .inr 3] follows S4 rfl (by kernel_rfl) ?_ ?_
  · refine ⟨⟨⟨trivial, ?_⟩, ?_⟩, ?_⟩
    · exact mS 2 4
    · exact b_eql_errno_t wA (oO 0 20) (opnd_const _) (h := rfl)
    · exact mO 1 21
  intro B5 a5 W5 (S5 : Sta w 60 [] [(2, bT), (1000001, TT)] _ _ _)
  refine wp_ret ?_
  refine thenR ?_
  exact end_one S5 rfl (res_tmp S5 0 2 rfl)

theorem ratthere_walk (w : World) (s : Bool) (p : Option Addr) (n c : Nat) (xs : List Nat) (t : Bool) (q : Option Addr) (m d : Nat) (ys : List Nat) (h : Sl w p n c xs) (h' : Sl w q m d ys) (b0 : c ≤ 1048576) (b0' : d ≤ 1048576) (ht : Tab w) :
    Calls Tryz.prog 4 #[.agg #[.bool s, .slice p n c, .bool t, .slice q m d]] w fun e w' => e = .returned (.bool true) ∧ Below w.heap.size w w' := by
  have q0 := h.cap
  have q1 := h'.cap
  have hv := rv_in (s := s) (t := t) h h'
  have fin : ∀ {e : Ending} {w' : World}, Gives (IS (.bool true)) w e w' → e = .returned (.bool true) ∧ Below w.heap.size w w' := by
    rintro e w' ⟨v, rfl, hb, hv⟩
    obtain rfl : v = _ := hv
    exact ⟨rfl, hb⟩
  cases hm : decide (0 < (sg t (val ys)).sign) with
  | true =>
    obtain ⟨d0, e0, e1⟩ := pos_of_sign hm
    rw [e0] at hv hm
    exact (ratthere_y w _ d0 n m _ hv (by omega) (by omega) ht e1 hm (dR_ne e1)).mono (fun e w' h => fin h)
  | false => exact (ratthere_n w _ _ n m _ hv (by omega) (by omega) ht hm).mono (fun e w' h => fin h)
end Go.Proofs.YtaplbadcpbollaaGreatDoor
