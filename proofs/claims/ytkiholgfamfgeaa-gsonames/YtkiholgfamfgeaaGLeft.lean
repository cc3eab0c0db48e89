/-
  gso.left.
-/
import Derived.Test.YtkiholgfamfgeaaGTaken
namespace Go.Proofs.Ytkiholgfamfgeaa
open Go Go.RowKit Nt
set_option linter.unusedSimpArgs false
set_option linter.unusedVariables false
set_option maxRecDepth 20000


def dotR (R B : List Int) : Int := sumZ (List.zipWith (· * ·) R B)
/-- The L of one more row. -/
def lfL (D : List Int) (L Bm : List (List Int)) (R : List Int) : Nat → List Int
  | 0 => []
  | j + 1 => lfL D L Bm R j ++ [tk D (lfL D L Bm R j) (L.getD j []) (dotR R (Bm.getD j [])) j]
theorem lfL_len (D : List Int) (L Bm : List (List Int)) (R : List Int) : ∀ j, (lfL D L Bm R j).length = j
  | 0 => rfl
  | j + 1 => by simp [lfL, lfL_len D L Bm R j]
structure LfOk (D : List Int) (L Bm : List (List Int)) (R : List Int) (m K : Nat) : Prop where
  row : ∀ j, j < m → TkOk D (lfL D L Bm R j) (L.getD j []) (dotR R (Bm.getD j [])) j K
  last : TkOk D (lfL D L Bm R m) (lfL D L Bm R m) (dotR R R) m K
theorem lf_dl {D : List Int} {L Bm : List (List Int)} {R : List Int} {m K : Nat} (ok : LfOk D L Bm R m K) : ∀ j, j ≤ m → Dl (lfL D L Bm R j) K
  | 0, _ => fun i z h => by simp [lfL] at h
  | j + 1, hj => fun i z h => by
    have hl := lfL_len D L Bm R j
    rcases Nat.lt_or_ge i j with h1 | h1
    · rw [lfL, List.getElem?_append_left (by omega)] at h
      exact lf_dl ok j (by omega) i z h
    · rw [lfL, List.getElem?_append_right (by omega)] at h
      cases hi : i - (lfL D L Bm R j).length with
      | zero => rw [hi] at h; simp at h; rw [← h]; exact (ok.row j (by omega)).dl j (Nat.le_refl _)
      | succ t => rw [hi] at h; simp at h
section
variable {ops : Array Oper} {l : List Kd} {bx : Bxs} {sl : List (Tmp × Pr)} {i : Nat} {o : Oper} {Q : Exit → Act → World → Prop} {a0 : Act} {n : Nat} {w0 : World} {vs : Nat → Value} {B : Nat → Prop} {a : Act} {w : World}
theorem taken_any (c : Ctx ops l bx sl a0 n w0 i vs B a w) {v0 v1 v2 v3 : Value} {n1 m m2 K : Nat} {D L M : List Int} {z : Int} (h0 : Hs w (Vv n1 D K) v0) (h1 : Has B w (ZN z w0.heap.size) v1) (h2 : Hs w (Vv m L K) v2) (h3 : Hs w (Vv m2 M K) v3) (hn : m < n1) (hm : m ≤ m2) (hK : K ≤ 1073741824) (hN : n1 ≤ 1048576) (ok : TkOk D L M z m K) :
    Calls Try.prog 86 #[v0, v1, v2, v3] w fun e w' => ∃ r, e = .returned r ∧ Below w.heap.size w w' ∧ Has B w' (ZN (tk D L M z m) w0.heap.size) r := by
  cases m with
  | zero =>
    obtain ⟨r, c', rfl, _⟩ := id h1.now
    refine (taken_0 w v0 v2 v3 _ _ _ _ K L h2).mono ?_
    rintro e w' ⟨v, rfl, hb, hv⟩
    obtain rfl : v = _ := hv
    exact ⟨_, rfl, hb, h1.go (Ev.of_below hb) (fun _ _ h => h)⟩
  | succ m => exact (taken_s w v0 v1 v2 v3 n1 (m + 1) m2 K D L M z h0 (h1.hs.imp (fun w => zn_zv (ok.dl 0 (by omega)) v1 w)) h2 h3 hn hm (by omega) hK hN ok).mono (fun e w' h => gives_has (fresh_zn _) c h)
end
section
variable {ops : Array Oper} {l : List Kd} {bx : Bxs} {sl : List (Tmp × Pr)} {i : Nat} {o : Oper} {Q : Exit → Act → World → Prop} {a0 : Act} {n : Nat} {w0 : World}
theorem owe_takenR {x0 x1 x2 x3 : Operand} {ts : Array TypeId} {t kk E n1 m m2 K : Nat} {D L M : List Int} {z : Int} (ho : ops[i]? = some o) (hw : Wants ops l bx sl i o) (hop : o.op = .call { callee := .value (.func 86), args := #[x0, x1, x2, x3], argTypes := ts })
    (h0 : Opnd ops l bx sl i x0 (Vv n1 D K)) (h1 : Opnd ops l bx sl i x1 (ZN z w0.heap.size)) (h2 : Opnd ops l bx sl i x2 (Is (a0.eval (.tmp t)))) (h3 : Opnd ops l bx sl i x3 (Vv m2 M K)) (hb : bx[kk]? = some (t, .row E 2 m (CE 2 ((L.map ZN).map (· w0.heap.size))))) (hu : unturned ops l i (.inl t) = true)
    (hL : Dl L K) (hn : m < n1) (hm : m ≤ m2) (hK : K ≤ 1073741824) (hN : n1 ≤ 1048576) (ok : TkOk D L M z m K) (hk : kdAt l i = .val (ZN (tk D L M z m) w0.heap.size)) : Owed Try.prog ops Q l bx sl a0 n w0 i :=
  owe_callW ho hw hop hk (fun args w => by go_simp) fun vs B a w c => by
    rw [show (#[x0, x1, x2, x3] : Array Operand).map a.eval = #[a.eval x0, a.eval x1, a.eval x2, a.eval x3] from by simp]
    have e2 : a.eval x2 = a0.eval (.tmp t) := (h2 a0 n w0 vs B a w c).now
    have h2' : Hs w (Vv m L K) (a.eval x2) := by
      rw [e2]
      exact row_hs (c.box t _ (List.mem_of_getElem? hb) hu) (fun v w ys ho hc => vn_vv hL v w (row_lf (by decide) v w ys ho hc))
    exact taken_any c (h0 a0 n w0 vs B a w c).hs (h1 a0 n w0 vs B a w c) h2' (h3 a0 n w0 vs B a w c).hs hn hm hK hN ok
theorem owe_takenV {x0 x1 x2 x3 : Operand} {ts : Array TypeId} {n1 m m2 K : Nat} {D L M : List Int} {z : Int} (ho : ops[i]? = some o) (hw : Wants ops l bx sl i o) (hop : o.op = .call { callee := .value (.func 86), args := #[x0, x1, x2, x3], argTypes := ts })
    (h0 : Opnd ops l bx sl i x0 (Vv n1 D K)) (h1 : Opnd ops l bx sl i x1 (ZN z w0.heap.size)) (h2 : Opnd ops l bx sl i x2 (Vv m L K)) (h3 : Opnd ops l bx sl i x3 (Vv m2 M K))
    (hn : m < n1) (hm : m ≤ m2) (hK : K ≤ 1073741824) (hN : n1 ≤ 1048576) (ok : TkOk D L M z m K) (hk : kdAt l i = .val (ZN (tk D L M z m) w0.heap.size)) : Owed Try.prog ops Q l bx sl a0 n w0 i :=
  owe_callW ho hw hop hk (fun args w => by go_simp) fun vs B a w c => by
    rw [show (#[x0, x1, x2, x3] : Array Operand).map a.eval = #[a.eval x0, a.eval x1, a.eval x2, a.eval x3] from by simp]
    exact taken_any c (h0 a0 n w0 vs B a w c).hs (h1 a0 n w0 vs B a w c) (h2 a0 n w0 vs B a w c).hs (h3 a0 n w0 vs B a w c).hs hn hm hK hN ok
end

set_option maxHeartbeats 4000000 in
theorem left_w (w : World) (u0 u1 u2 : Value) (n0 nb x K : Nat) (D : List Int) (L Bm : List (List Int)) (R : List Int) (h0 : Hs w (SF [Vv (n0 + 1) D K, Mv n0 L K]) u0) (h1 : Hs w (Mv nb Bm K) u1) (h2 : Hs w (Vv x R K) u2) (hnb : n0 ≤ nb) (hn : n0 ≤ 1048000) (hx : x ≤ 1048576) (hK : K ≤ 500000000) (lL : L.length = n0) (lB : Bm.length = nb) (hLl : ∀ j, j < n0 → (L.getD j []).length = j) (hBl : ∀ j, j < n0 → (Bm.getD j []).length = x) (ok : LfOk D L Bm R n0 K) :
    Calls Try.prog 74 #[u0, u1, u2] w (Gives (TWO (VN n0 (lfL D L Bm R n0)) (ZN (tk D (lfL D L Bm R n0) (lfL D L Bm R n0) (dotR R R) n0))) w) := by
  refine calls_sta (sl := [(0, (SF [(Vv (n0 + 1) D K), (Mv n0 L K)])), (1, (Mv nb Bm K)), (2, (Vv x R K))]) Try.func74 rfl Try.ntmps74 (by simp) (args_cons rfl (h0) (args_cons rfl (h1) (args_cons rfl (h2) args_nil))) ?_
  intro a0 S0
  refine wp_stmt_seq [.new (.box 25 (SF [(Vv (n0 + 1) D K), (Mv n0 L K)])), .val (Is (.slice none 0 0)), .new (.box 28 zI)] [.inl 0, .inl 2] [.inr 1, .inr 2] follows S0 rfl (by kernel_rfl) ?_ ?_
  · refine ⟨⟨⟨trivial, ?_⟩, ?_⟩, ?_⟩
    · exact owe_box rfl wA rfl (oS 0 0) rfl (fun ρ w h => box_gso shp_sf2 ρ _ _ w h)
    · exact mC
    · exact owe_new rfl wA rfl rfl (fun ρ w => alloc_int ρ _ w)
  intro B1 a1 W1 (S1 : Sta w 52 [(3, (.box 25 (SF [(Vv (n0 + 1) D K), (Mv n0 L K)]))), (7, (.box 28 zI))] [(1, Mv nb Bm K), (2, Vv x R K)] _ _ _)
  refine wp_stmt_seq [.val (Part a1 3 1), .val (Mv n0 L K), .val (iV (n0 : Nat)), .new (.row 28 2 0 (CE 2 (((lfL D L Bm R 0).map ZN).map (· w.heap.size)))), .ref 3] [.inr 0, .inr 1, .inl 4] [.inr 0, .inr 1] follows S1 rfl (by kernel_rfl) ?_ ?_
  · refine ⟨⟨⟨⟨⟨trivial, ?_⟩, ?_⟩, ?_⟩, ?_⟩, ?_⟩
    · exact owe_part rfl wA rfl (k := 0) rfl (by kernel_rfl) rfl (fun ρ w b h => part_gso1 ρ _ _ w b 0 h)
    · exact owe_pload rfl wA rfl (oO 0 13) (k := 0) rfl (by kernel_rfl) rfl (fun ρ w b u h1 h2 h3 => ploadS rfl load1_mat ρ _ _ w b u h1 h2 h3)
    · exact owe_len rfl wA rfl (oO 1 14) ar_len Try.underlying23 rfl
    · exact owe_make0 rfl wA rfl Try.underlying22 infoInt (oO 2 15) ⟨by omega, by unfold maxLen; omega⟩ ce_nil rfl
    · exact owe_ref 3 rfl wA (Or.inr rfl) (by kernel_rfl) rfl rfl
  intro B2 a2 W2 (S2 : Sta w 52 [(3, (.box 25 (SF [(Vv (n0 + 1) D K), (Mv n0 L K)]))), (7, (.box 28 zI)), (8, (.row 28 2 0 (CE 2 (((lfL D L Bm R 0).map ZN).map (· w.heap.size)))))] [(1, Mv nb Bm K), (2, Vv x R K)] _ _ _)
  refine wp_seq ?_
  refine wp_stmt_seq [.val (Part a2 3 1), .val (Mv n0 L K), .val (iV (n0 : Nat)), .val (iV 0)] [.inr 0, .inr 1, .inr 2] [.inl 1, .inl 2, .inl 3, .inr 0, .inr 1] follows S2 rfl (by kernel_rfl) ?_ ?_
  · refine ⟨⟨⟨⟨trivial, ?_⟩, ?_⟩, ?_⟩, ?_⟩
    · exact owe_part rfl wA rfl (k := 0) rfl (by kernel_rfl) rfl (fun ρ w b h => part_gso1 ρ _ _ w b 0 h)
    · exact owe_pload rfl wA rfl (oO 0 17) (k := 0) rfl (by kernel_rfl) rfl (fun ρ w b u h1 h2 h3 => ploadS rfl load1_mat ρ _ _ w b u h1 h2 h3)
    · exact owe_len rfl wA rfl (oO 1 18) ar_len Try.underlying23 rfl
    · exact mC
  intro B3 a3 W3 (S3 : Sta w 52 [(3, (.box 25 (SF [(Vv (n0 + 1) D K), (Mv n0 L K)]))), (7, (.box 28 zI)), (8, (.row 28 2 0 (CE 2 (((lfL D L Bm R 0).map ZN).map (· w.heap.size)))))] [(18, Mv n0 L K), (19, iV (n0 : Nat)), (20, iV 0), (1, Mv nb Bm K), (2, Vv x R K)] _ _ _)
  refine wp_block ?_
  refine wp_loop_ghost (fun (k0 : Nat) a W => (k0 ≤ n0) ∧ ∃ Bq, Sta w 52 [(3, (.box 25 (SF [(Vv (n0 + 1) D K), (Mv n0 L K)]))), (7, (.box 28 zI)), (8, (.row 28 2 k0 (CE 2 (((lfL D L Bm R k0).map ZN).map (· w.heap.size)))))] [(18, Mv n0 L K), (19, iV (n0 : Nat)), (20, iV (k0 : Nat)), (1, Mv nb Bm K), (2, Vv x R K)] Bq a W) (fun (k0 : Nat) => n0 - k0) ?_ 0 ⟨Nat.zero_le _, B3, S3.sub [0, 1, 2] [0, 1, 2, 3, 4]⟩
  rintro k0 a4 W4 ⟨hcond, B4, S4⟩
  by_cases hlt : k0 < n0
  · have hl1 := hLl k0 hlt
    have hl2 := hBl k0 hlt
    refine wp_stmt_seq [kT] [.inr 0, .inr 1, .inr 2] [.inl 0, .inr 0, .inr 1, .inr 2, .inr 3, .inr 4] follows S4 rfl (by kernel_rfl) ?_ ?_
    · refine ⟨trivial, ?_⟩
      · exact b_lss_int_t wA (oS 2 20) (oS 1 19)
    intro B5 a5 W5 (S5 : Sta w 52 [(3, (.box 25 (SF [(Vv (n0 + 1) D K), (Mv n0 L K)]))), (7, (.box 28 zI)), (8, (.row 28 2 k0 (CE 2 (((lfL D L Bm R k0).map ZN).map (· w.heap.size)))))] [(21, bT), (18, Mv n0 L K), (19, iV (n0 : Nat)), (20, iV (k0 : Nat)), (1, Mv nb Bm K), (2, Vv x R K)] _ _ _)
    refine wp_seq ?_
    refine wp_cond_true (S5.bool 0 21 rfl) ?_
    refine wp_skip ?_
    refine thenN ?_
    refine wp_seq ?_
    refine wp_block ?_
    refine wp_stmt_seq [.val (iV (k0 : Nat)), .val (AtE 1 (Vv k0 (L.getD k0 []) K)), .val (Vv k0 (L.getD k0 []) K), .val (iV (k0 : Nat)), .val (Vv k0 (L.getD k0 []) K)] [.inr 0, .inr 1, .inr 2] [.inl 3, .inl 4, .inr 1, .inr 2, .inr 3, .inr 4, .inr 5] follows S5 rfl (by kernel_rfl) ?_ ?_
    · refine ⟨⟨⟨⟨⟨trivial, ?_⟩, ?_⟩, ?_⟩, ?_⟩, ?_⟩
      · exact mS 3 20
      · exact owe_aindex rfl wA rfl idx_rows (oS 1 18) (oS 3 20) (by have q := vv_at (A := L) (K := K) (k := k0) (by omega); rw [hl1] at q; exact q) rfl
      · exact owe_aload rfl wA rfl ldr_row1 (by decide) cel_vv (oO 1 23) rfl
      · exact mO 0 22
      · exact mO 2 24
    intro B6 a6 W6 (S6 : Sta w 52 [(3, (.box 25 (SF [(Vv (n0 + 1) D K), (Mv n0 L K)]))), (7, (.box 28 zI)), (8, (.row 28 2 k0 (CE 2 (((lfL D L Bm R k0).map ZN).map (· w.heap.size)))))] [(9, iV (k0 : Nat)), (10, Vv k0 (L.getD k0 []) K), (18, Mv n0 L K), (19, iV (n0 : Nat)), (20, iV (k0 : Nat)), (1, Mv nb Bm K), (2, Vv x R K)] _ _ _)
    refine wp_stmt_seq [.val (Vv x R K), .val (Mv nb Bm K), .val (iV (k0 : Nat)), .val (AtE 1 (Vv x (Bm.getD k0 []) K)), .val (Vv x (Bm.getD k0 []) K), .val ((TWO (ZN (dotR R (Bm.getD k0 []))) (IS (.int .i64 0))) w.heap.size), .val ((TWO (ZN (dotR R (Bm.getD k0 []))) (IS (.int .i64 0))) w.heap.size), .val ((ZN (dotR R (Bm.getD k0 []))) w.heap.size), .val (iV 0), .new (.box 28 zI), .put (.inr 9) (.box 28 ((ZN (dotR R (Bm.getD k0 []))) w.heap.size)), .val (iV 0)] [.inr 0, .inr 1, .inr 2, .inl 9] [.inr 1, .inr 2, .inr 3, .inr 4, .inr 5, .inr 6] follows S6 rfl (by kernel_rfl) ?_ ?_
    · repeat' refine And.intro ?_ ?_
      · trivial
      · exact mS 6 2
      · exact mS 5 1
      · exact mS 0 9
      · exact owe_aindex rfl wA rfl idx_rows (oO 1 27) (oO 2 28) (by have q := vv_at (A := Bm) (K := K) (k := k0) (by omega); rw [hl2] at q; exact q) rfl
      · exact owe_aload rfl wA rfl ldr_row1 (by decide) cel_vv (oO 3 29) rfl
      · exact ch2 wA (qO 0 26 rfl) (qO 4 30 rfl) (fresh_two (fresh_zn _) (fresh_is _)) (fun w u v h1 h2 => dot_y w u v x K K R (Bm.getD k0 []) h1 h2 (by omega) (by omega))
      · exact mO 5 31
      · exact e20 wA (oO 6 25)
      · exact e21 wA (oO 6 25)
      · exact owe_new rfl wA rfl rfl (fun ρ w => alloc_int ρ _ w)
      · exact owe_put 9 rfl wA rfl (by kernel_rfl) rfl (oO 7 32) (stores_of strct_int shp_z0 shp_zn) rfl
      · exact mO 8 33
    intro B7 a7 W7 (S7 : Sta w 52 [(3, (.box 25 (SF [(Vv (n0 + 1) D K), (Mv n0 L K)]))), (7, (.box 28 zI)), (8, (.row 28 2 k0 (CE 2 (((lfL D L Bm R k0).map ZN).map (· w.heap.size))))), (11, (.box 28 ((ZN (dotR R (Bm.getD k0 []))) w.heap.size)))] [(10, Vv k0 (L.getD k0 []) K), (18, Mv n0 L K), (19, iV (n0 : Nat)), (20, iV (k0 : Nat)), (1, Mv nb Bm K), (2, Vv x R K)] _ _ _)
    refine wp_stmt [.val (Is (a7.eval (.tmp 8))), .val (Part a7 3 0), .val (Vv (n0 + 1) D K), .val ((ZN (dotR R (Bm.getD k0 []))) w.heap.size), .val (Is (a7.eval (.tmp 8))), .val (Vv k0 (L.getD k0 []) K), .val ((ZN (tk D (lfL D L Bm R k0) (L.getD k0 []) (dotR R (Bm.getD k0 [])) k0)) w.heap.size), .val (Sng 28 2 ((ZN (tk D (lfL D L Bm R k0) (L.getD k0 []) (dotR R (Bm.getD k0 [])) k0)) w.heap.size) w.heap.size), .mov 8 (.row 28 2 (k0 + 1) (CE 2 (((lfL D L Bm R (k0 + 1)).map ZN).map (· w.heap.size)))), .ref 8] [.inr 0, .inr 1, .inl 9] [.inr 1, .inr 2, .inr 3, .inr 4, .inr 5] follows S7 rfl (by kernel_rfl) ?_ ?_
    · repeat' refine And.intro ?_ ?_
      · trivial
      · exact owe_same rfl wA (Or.inl rfl) (by kernel_rfl) rfl
      · exact owe_part rfl wA rfl (k := 0) rfl (by kernel_rfl) rfl (fun ρ w b h => part_gso0 ρ _ _ w b 0 h)
      · exact owe_pload rfl wA rfl (oO 1 35) (k := 0) rfl (by kernel_rfl) rfl (fun ρ w b u h1 h2 h3 => ploadS rfl load1_vec ρ _ _ w b u h1 h2 h3)
      · exact lod 3 wA (loads_of strct_int shp_zn)
      · exact owe_same rfl wA (Or.inl rfl) (by kernel_rfl) rfl
      · exact mS 0 10
      · exact owe_takenR (t := 8) (kk := 2) rfl wA rfl (oO 2 36) (oO 3 37) (oO 4 38) (oO 5 39) rfl (by kernel_rfl) (lf_dl ok k0 (by omega)) (by omega) (by omega) (by omega) (by omega) (ok.row k0 hlt) rfl
      · exact owe_b1 rfl wA rfl bld_int (oO 6 40) (cel_shp (by decide) shp_zn) rfl
      · exact owe_append rfl wA rfl (oO 0 34) (k := 2) rfl (by kernel_rfl) ((oO 7 41).imp b1_src) einf_int Try.underlying22 (by decide) ⟨by unfold maxLen; omega, by omega⟩ rfl (fun xs ys w h1 h2 => by simp only [lfL, List.map_append, List.map_cons, List.map_nil]; exact ce_append _ _ _ h1 h2)
      · exact owe_ref 8 rfl wA (Or.inr rfl) (by kernel_rfl) rfl rfl
    intro B8 a8 W8 (S8 : Sta w 52 [(3, (.box 25 (SF [(Vv (n0 + 1) D K), (Mv n0 L K)]))), (7, (.box 28 zI)), (8, (.row 28 2 (k0 + 1) (CE 2 (((lfL D L Bm R (k0 + 1)).map ZN).map (· w.heap.size)))))] [(18, Mv n0 L K), (19, iV (n0 : Nat)), (20, iV (k0 : Nat)), (1, Mv nb Bm K), (2, Vv x R K)] _ _ _)
    refine inBlkN ?_
    refine thenN ?_
    refine wp_stmt [.val (iV (k0 + 1 : Nat)), .val (iV (k0 + 1 : Nat))] [.inr 0, .inr 1, .inr 2] [.inl 1, .inr 0, .inr 1, .inr 3, .inr 4] follows S8 rfl (by kernel_rfl) ?_ ?_
    · refine ⟨⟨trivial, ?_⟩, ?_⟩
      · exact b_add_int wA (oS 2 20) (opnd_const _)
      · exact mO 0 43
    intro B9 a9 W9 (S9 : Sta w 52 [(3, (.box 25 (SF [(Vv (n0 + 1) D K), (Mv n0 L K)]))), (7, (.box 28 zI)), (8, (.row 28 2 (k0 + 1) (CE 2 (((lfL D L Bm R (k0 + 1)).map ZN).map (· w.heap.size)))))] [(20, iV (k0 + 1 : Nat)), (18, Mv n0 L K), (19, iV (n0 : Nat)), (1, Mv nb Bm K), (2, Vv x R K)] _ _ _)
    refine thenN ?_
    exact ⟨k0 + 1, ⟨by omega, B9, S9.sub [0, 1, 2] [1, 2, 0, 3, 4]⟩, by omega⟩
  · have ek : k0 = n0 := by omega
    rw [ek] at S4
    refine wp_stmt_seq [kF] [.inr 0, .inr 1, .inr 2] [.inl 0, .inr 0, .inr 1, .inr 2, .inr 3, .inr 4] follows S4 rfl (by kernel_rfl) ?_ ?_
    · refine ⟨trivial, ?_⟩
      · exact b_lss_int_f wA (oS 2 20) (oS 1 19)
    intro B5 a5 W5 (S5 : Sta w 52 [(3, (.box 25 (SF [(Vv (n0 + 1) D K), (Mv n0 L K)]))), (7, (.box 28 zI)), (8, (.row 28 2 n0 (CE 2 (((lfL D L Bm R n0).map ZN).map (· w.heap.size)))))] [(21, bF), (18, Mv n0 L K), (19, iV (n0 : Nat)), (20, iV (n0 : Nat)), (1, Mv nb Bm K), (2, Vv x R K)] _ _ _)
    refine wp_seq ?_
    refine wp_cond_false (S5.bool 0 21 rfl) ?_
    refine wp_exit ?_
    refine thenX ?_
    refine thenX ?_
    refine inBlkE ?_
    refine thenN ?_
    obtain ⟨B6, S6⟩ : ∃ Bq, Sta w 52 [(3, (.box 25 (SF [(Vv (n0 + 1) D K), (Mv n0 L K)]))), (7, (.box 28 zI))] [(8, ((VN n0 (lfL D L Bm R n0)) w.heap.size)), (21, bF), (18, Mv n0 L K), (19, iV (n0 : Nat)), (20, iV (n0 : Nat)), (1, Mv nb Bm K), (2, Vv x R K)] Bq a5 W5 := ⟨_, S5.freeze 2 rfl (by simp) (fun v w' xs ho hc => row_lf (by decide) v w' xs ho hc)⟩
    obtain ⟨a6, W6, e1, e2⟩ : ∃ a W, a5 = a ∧ W5 = W := ⟨_, _, rfl, rfl⟩
    rw [e1, e2] at S6 ⊢
    clear e1 e2
    refine wp_stmt_seq [.val ((VN n0 (lfL D L Bm R n0)) w.heap.size), .val (Part a6 3 0), .val (Vv (n0 + 1) D K), .val (Vv x R K), .val ((ZN (dotR R R)) w.heap.size), .val ((VN n0 (lfL D L Bm R n0)) w.heap.size), .val ((VN n0 (lfL D L Bm R n0)) w.heap.size), .val ((ZN (tk D (lfL D L Bm R n0) (lfL D L Bm R n0) (dotR R R) n0)) w.heap.size), .val ((VN n0 (lfL D L Bm R n0)) w.heap.size), .put (.inl 7) (.box 28 ((ZN (tk D (lfL D L Bm R n0) (lfL D L Bm R n0) (dotR R R) n0)) w.heap.size))] [.inr 0, .inr 1] [.inl 8, .inr 0, .inr 2, .inr 3, .inr 4, .inr 5, .inr 6] follows S6 rfl (by kernel_rfl) ?_ ?_
    · repeat' refine And.intro ?_ ?_
      · trivial
      · exact mS 0 8
      · exact owe_part rfl wA rfl (k := 0) rfl (by kernel_rfl) rfl (fun ρ w b h => part_gso0 ρ _ _ w b 0 h)
      · exact owe_pload rfl wA rfl (oO 1 45) (k := 0) rfl (by kernel_rfl) rfl (fun ρ w b u h1 h2 h3 => ploadS rfl load1_vec ρ _ _ w b u h1 h2 h3)
      · exact mS 6 2
      · exact ch1 wA (qO 3 47 rfl) (fresh_zn _) (fun w u h1 => norm_w w u x K R h1 (by omega) (by omega))
      · exact mS 0 8
      · exact mS 0 8
      · exact owe_takenV rfl wA rfl (oO 2 46) (oO 4 48) ((oO 5 49).imp (vn_vv (lf_dl ok n0 (Nat.le_refl _)))) ((oO 6 50).imp (vn_vv (lf_dl ok n0 (Nat.le_refl _)))) (by omega) (by omega) (by omega) (by omega) ok.last rfl
      · exact mO 0 44
      · exact owe_set rfl wA rfl (k := 1) rfl (by kernel_rfl) (oO 7 51) (stores_of strct_int shp_z0 shp_zn) rfl
    intro B7 a7 W7 (S7 : Sta w 52 [(3, (.box 25 (SF [(Vv (n0 + 1) D K), (Mv n0 L K)]))), (7, (.box 28 ((ZN (tk D (lfL D L Bm R n0) (lfL D L Bm R n0) (dotR R R) n0)) w.heap.size)))] [(6, ((VN n0 (lfL D L Bm R n0)) w.heap.size)), (8, ((VN n0 (lfL D L Bm R n0)) w.heap.size)), (18, Mv n0 L K), (19, iV (n0 : Nat)), (20, iV (n0 : Nat)), (1, Mv nb Bm K), (2, Vv x R K)] _ _ _)
    refine wp_ret ?_
    exact end_two S7 rfl (res_tmp S7 0 6 rfl) (res_cell S7 1 7 rfl strct_int shp_zn)

end Go.Proofs.Ytkiholgfamfgeaa
