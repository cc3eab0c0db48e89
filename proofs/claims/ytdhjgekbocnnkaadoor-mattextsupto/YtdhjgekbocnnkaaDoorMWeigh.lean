/-
  Sums of rows: mat.weighed, mat.Combine, and the document's.
-/
import Derived.Test.YtdhjgekbocnnkaaDoorSetH
import Derived.Test.YtdhjgekbocnnkaaDoorSetJ
import Derived.Test.YtdhjgekbocnnkaaDoorCopyE
namespace Go.Proofs.YtdhjgekbocnnkaaDoor
open Go Go.RowKit Nt
set_option linter.unusedSimpArgs false
set_option linter.unusedVariables false
set_option maxRecDepth 20000

set_option maxHeartbeats 400000 in
theorem pairs2_w (w : World) (u v f : Value) (n : Nat) (φs φs' : List Pr) (ψs : List (Nat → Pr)) (hl : φs.length = n) (hl2 : φs'.length = n) (hl' : ψs.length = n) (h : Hs w (Ar 2 n φs) u) (h' : Hs w (Ar 1 n φs') v) (hf : Hs w (Fn2 φs φs' ψs) f) (hS : ∀ (i : Nat) φ, φs[i]? = some φ → Shp 2 φ) (hS' : ∀ (i : Nat) φ, φs'[i]? = some φ → Cel 1 φ) (hψ : ∀ (i : Nat) ψ, ψs[i]? = some ψ → Fresh ψ ∧ ∀ lo, Shp 2 (ψ lo)) (hn : n ≤ 1048576) :
    Calls Tryd.prog 55 #[u, v, f] w (Gives (LF 2 n ψs) w) := by
  refine calls_sta (sl := [(0, (Ar 2 n φs)), (1, (Ar 1 n φs')), (2, (Fn2 φs φs' ψs))]) Tryd.func55 rfl Tryd.ntmps55 (by simp) (args_cons rfl (h) (args_cons rfl (h') (args_cons rfl (hf) args_nil))) ?_
  intro a0 S0
  refine wp_stmt_seq [.val (Is (.slice none 0 0))] [] [.inl 0, .inr 0, .inr 1, .inr 2] follows S0 rfl (by kernel_rfl) ?_ ?_
  · refine ⟨trivial, ?_⟩
    · exact owe_move rfl (wants_all rfl) (Or.inr rfl) (opnd_const _) rfl
  intro B1 a1 W1 S1
  replace S1 : Sta w 32 [] [(6, (Is (.slice none 0 0))), (0, (Ar 2 n φs)), (1, (Ar 1 n φs')), (2, (Fn2 φs φs' ψs))] B1 a1 W1 := S1
  refine wp_stmt_seq [.val (Ar 2 n φs),
      .val (Is (.int .i64 (n : Nat))),
      .new (.row 36 2 n (CE 2 (List.replicate n (Is (.agg #[.bool false, .slice none 0 0]))))),
      .ref 2] [.inl 3] [.inr 0, .inr 1, .inr 2, .inr 3] follows S1 rfl (by kernel_rfl) ?_ ?_
  · refine ⟨⟨⟨⟨trivial, ?_⟩, ?_⟩, ?_⟩, ?_⟩
    · exact owe_move rfl (wants_all rfl) (Or.inl rfl) (opnd_slot 1 0 rfl (by kernel_rfl)) rfl
    · exact owe_len rfl (wants_all rfl) rfl (opnd_op 0 10 (by kernel_rfl) rfl) ar_len Tryd.underlying23 rfl
    · exact owe_makeE rfl (wants_all rfl) rfl Tryd.underlying23 infoInt celv_z0 (by decide) (opnd_op 1 11 (by kernel_rfl) rfl) ⟨by omega, by unfold maxLen; omega⟩ rfl
    · exact owe_ref 2 rfl (wants_all rfl) (Or.inr rfl) (by kernel_rfl) rfl rfl
  intro B2 a2 W2 S2
  replace S2 : Sta w 32 [(7, (.row 36 2 n (CE 2 (List.replicate n (Is (.agg #[.bool false, .slice none 0 0]))))))] [(6, (Is (.slice none 0 0))), (0, (Ar 2 n φs)), (1, (Ar 1 n φs')), (2, (Fn2 φs φs' ψs))] B2 a2 W2 := S2
  refine wp_seq ?_
  refine wp_stmt_seq [.val (Ar 2 n φs),
      .val (Is (.int .i64 (n : Nat))),
      .val (Is (.int .i64 0))] [.inr 0] [.inl 0, .inl 1, .inl 2, .inr 0, .inr 1, .inr 2, .inr 3] follows S2 rfl (by kernel_rfl) ?_ ?_
  · refine ⟨⟨⟨trivial, ?_⟩, ?_⟩, ?_⟩
    · exact owe_move rfl (wants_all rfl) (Or.inl rfl) (opnd_slot 1 0 rfl (by kernel_rfl)) rfl
    · exact owe_len rfl (wants_all rfl) rfl (opnd_op 0 13 (by kernel_rfl) rfl) ar_len Tryd.underlying23 rfl
    · exact owe_move rfl (wants_all rfl) (Or.inl rfl) (opnd_const _) rfl
  intro B3 a3 W3 S3
  replace S3 : Sta w 32 [(7, (.row 36 2 n (CE 2 (List.replicate n (Is (.agg #[.bool false, .slice none 0 0]))))))] [(13, (Ar 2 n φs)), (14, (Is (.int .i64 (n : Nat)))), (15, (Is (.int .i64 0))), (6, (Is (.slice none 0 0))), (0, (Ar 2 n φs)), (1, (Ar 1 n φs')), (2, (Fn2 φs φs' ψs))] B3 a3 W3 := S3
  refine wp_block ?_
  refine wp_loop_ghost (fun (k : Nat) a W => (k ≤ n) ∧ ∃ Bq, Sta w 32 [(7, (.row 36 2 n (CE 2 ((ψs.map (· w.heap.size)).take k ++ List.replicate (n - k) (Is (.agg #[.bool false, .slice none 0 0]))))))] [(13, (Ar 2 n φs)), (14, (Is (.int .i64 (n : Nat)))), (15, (Is (.int .i64 k))), (1, (Ar 1 n φs')), (2, (Fn2 φs φs' ψs))] Bq a W) (fun (k : Nat) => n - k) ?_ 0 ⟨Nat.zero_le _, B3, S3.sub [0] [0, 1, 2, 5, 6]⟩
  rintro k a4 W4 ⟨hcond, B4, S4⟩
  by_cases hlt : k < n
  · obtain ⟨φ, hφ⟩ : ∃ φ, φs[k]? = some φ := ⟨φs[k]'(by omega), List.getElem?_eq_getElem _⟩
    obtain ⟨ψ, hψk⟩ : ∃ ψ, ψs[k]? = some ψ := ⟨ψs[k]'(by omega), List.getElem?_eq_getElem _⟩
    have hset := set_next (z := Is (.agg #[.bool false, .slice none 0 0])) (xs := (ψs.map (· w.heap.size))) (n := n) (by simp [hl']) (map_get' (· w.heap.size) hψk)
    obtain ⟨φ', hφ'⟩ : ∃ φ, φs'[k]? = some φ := ⟨φs'[k]'(by omega), List.getElem?_eq_getElem _⟩
    refine wp_stmt_seq [.val (Is (.bool true))] [.inr 0] [.inl 0, .inr 0, .inr 1, .inr 2, .inr 3, .inr 4] follows S4 rfl (by kernel_rfl) ?_ ?_
    · refine ⟨trivial, ?_⟩
      · exact owe_bin rfl (wants_all rfl) rfl (opnd_slot 2 15 rfl (by kernel_rfl)) (opnd_slot 1 14 rfl (by kernel_rfl)) rfl (fun ρ w h1 h2 => by exact run_lss_int_t ρ _ _ _ w _ _ (by omega) h1 h2)
    intro B5 a5 W5 S5
    replace S5 : Sta w 32 [(7, (.row 36 2 n (CE 2 ((ψs.map (· w.heap.size)).take k ++ List.replicate (n - k) (Is (.agg #[.bool false, .slice none 0 0]))))))] [(16, (Is (.bool true))), (13, (Ar 2 n φs)), (14, (Is (.int .i64 (n : Nat)))), (15, (Is (.int .i64 k))), (1, (Ar 1 n φs')), (2, (Fn2 φs φs' ψs))] B5 a5 W5 := S5
    refine wp_seq ?_
    refine wp_cond_true (S5.bool 0 16 rfl) ?_
    refine wp_skip ?_
    refine thenN ?_
    refine wp_seq ?_
    refine wp_block ?_
    refine wp_stmt_seq [.val (Is (.int .i64 k)),
      .val (AtE 2 φ),
      .val φ,
      .new (.box 36 (Is (.agg #[.bool false, .slice none 0 0]))),
      .val (Is (.int .i64 k)),
      .put (.inr 3) (.box 36 φ)] [.inr 0, .inl 3] [.inl 4, .inr 0, .inr 1, .inr 2, .inr 3, .inr 4, .inr 5] follows S5 rfl (by kernel_rfl) ?_ ?_
    · refine ⟨⟨⟨⟨⟨⟨trivial, ?_⟩, ?_⟩, ?_⟩, ?_⟩, ?_⟩, ?_⟩
      · exact owe_move rfl (wants_all rfl) (Or.inl rfl) (opnd_slot 3 15 rfl (by kernel_rfl)) rfl
      · exact owe_aindex rfl (wants_all rfl) rfl idx_ints (opnd_slot 1 13 rfl (by kernel_rfl)) (opnd_slot 3 15 rfl (by kernel_rfl)) hφ rfl
      · exact owe_aload rfl (wants_all rfl) rfl ldr_int (by decide) (cel_shp (by decide) (hS k φ hφ)) (opnd_op 1 18 (by kernel_rfl) rfl) rfl
      · exact owe_new rfl (wants_all rfl) rfl rfl (fun ρ w => alloc_int ρ _ w)
      · exact owe_move rfl (wants_all rfl) (Or.inr rfl) (opnd_op 0 17 (by kernel_rfl) rfl) rfl
      · exact owe_put 3 rfl (wants_all rfl) rfl (by kernel_rfl) rfl (opnd_op 2 19 (by kernel_rfl) rfl) (stores_of strct_int shp_z0 (hS k φ hφ)) rfl
    intro B6 a6 W6 S6
    replace S6 : Sta w 32 [(7, (.row 36 2 n (CE 2 ((ψs.map (· w.heap.size)).take k ++ List.replicate (n - k) (Is (.agg #[.bool false, .slice none 0 0])))))), (9, (.box 36 φ))] [(8, (Is (.int .i64 k))), (16, (Is (.bool true))), (13, (Ar 2 n φs)), (14, (Is (.int .i64 (n : Nat)))), (15, (Is (.int .i64 k))), (1, (Ar 1 n φs')), (2, (Fn2 φs φs' ψs))] B6 a6 W6 := S6
    refine wp_stmt [.val (Is (a6.eval (.tmp 7))),
      .val (Is (.int .i64 k)),
      .val (Fn2 φs φs' ψs),
      .val φ,
      .val (Ar 1 n φs'),
      .val (Is (.int .i64 k)),
      .val (AtE 1 φ'),
      .val φ',
      .val (ψ w.heap.size),
      .val (REt a6 7 (2 * k)),
      .put (.inl 7) (.row 36 2 n (CE 2 ((ψs.map (· w.heap.size)).take (k + 1) ++ List.replicate (n - (k + 1)) (Is (.agg #[.bool false, .slice none 0 0])))))] [.inr 0, .inr 1] [.inr 1, .inr 2, .inr 3, .inr 4, .inr 5, .inr 6] follows S6 rfl (by kernel_rfl) ?_ ?_
    · refine ⟨⟨⟨⟨⟨⟨⟨⟨⟨⟨⟨trivial, ?_⟩, ?_⟩, ?_⟩, ?_⟩, ?_⟩, ?_⟩, ?_⟩, ?_⟩, ?_⟩, ?_⟩, ?_⟩
      · exact owe_same rfl (wants_all rfl) (Or.inl rfl) (by kernel_rfl) rfl
      · exact owe_move rfl (wants_all rfl) (Or.inl rfl) (opnd_slot 0 8 rfl (by kernel_rfl)) rfl
      · exact owe_move rfl (wants_all rfl) (Or.inl rfl) (opnd_slot 6 2 rfl (by kernel_rfl)) rfl
      · exact owe_load rfl (wants_all rfl) rfl (k := 1) rfl (by kernel_rfl) (loads_of strct_int (hS k φ hφ)) rfl
      · exact owe_move rfl (wants_all rfl) (Or.inl rfl) (opnd_slot 5 1 rfl (by kernel_rfl)) rfl
      · exact owe_move rfl (wants_all rfl) (Or.inl rfl) (opnd_slot 0 8 rfl (by kernel_rfl)) rfl
      · exact owe_aindex rfl (wants_all rfl) rfl idx_rows (opnd_op 4 24 (by kernel_rfl) rfl) (opnd_op 5 25 (by kernel_rfl) rfl) hφ' rfl
      · exact owe_aload rfl (wants_all rfl) rfl ldr_row1 (by decide) (hS' k φ' hφ') (opnd_op 6 26 (by kernel_rfl) rfl) rfl
      · exact owe_callv2 k rfl (wants_all rfl) rfl (opnd_op 2 22 (by kernel_rfl) rfl) hφ hφ' hψk (opnd_op 3 23 (by kernel_rfl) rfl) (opnd_op 7 27 (by kernel_rfl) rfl) (hψ k ψ hψk).1 rfl
      · exact owe_rindexE rfl (wants_all rfl) rfl idx_ints (opnd_op 0 20 (by kernel_rfl) rfl) (k := 0) rfl (by kernel_rfl) (opnd_op 1 21 (by kernel_rfl) rfl) hlt rfl
      · exact owe_rstoreE rfl (wants_all rfl) rfl sto_int (by decide) (opnd_op 9 29 (by kernel_rfl) rfl) (k := 0) rfl (by kernel_rfl) (opnd_op 8 28 (by kernel_rfl) rfl) (cel_shp (by decide) ((hψ k ψ hψk).2 _)) hlt (by rw [hset]; rfl)
    intro B7 a7 W7 S7
    replace S7 : Sta w 32 [(7, (.row 36 2 n (CE 2 ((ψs.map (· w.heap.size)).take (k + 1) ++ List.replicate (n - (k + 1)) (Is (.agg #[.bool false, .slice none 0 0])))))), (9, (.box 36 φ))] [(16, (Is (.bool true))), (13, (Ar 2 n φs)), (14, (Is (.int .i64 (n : Nat)))), (15, (Is (.int .i64 k))), (1, (Ar 1 n φs')), (2, (Fn2 φs φs' ψs))] B7 a7 W7 := S7
    refine inBlkN ?_
    refine thenN ?_
    refine wp_stmt [.val (Is (.int .i64 (k + 1 : Nat))),
      .val (Is (.int .i64 (k + 1 : Nat)))] [.inr 0, .inr 1] [.inl 1, .inr 0, .inr 1, .inr 2, .inr 4, .inr 5] follows S7 rfl (by kernel_rfl) ?_ ?_
    · refine ⟨⟨trivial, ?_⟩, ?_⟩
      · exact owe_bin rfl (wants_all rfl) rfl (opnd_slot 3 15 rfl (by kernel_rfl)) (opnd_const _) rfl (fun ρ w h1 h2 => by exact run_add_int ρ _ _ _ w _ _ _ ⟨by omega, by omega, by omega⟩ h1 h2)
      · exact owe_move rfl (wants_all rfl) (Or.inl rfl) (opnd_op 0 30 (by kernel_rfl) rfl) rfl
    intro B8 a8 W8 S8
    replace S8 : Sta w 32 [(7, (.row 36 2 n (CE 2 ((ψs.map (· w.heap.size)).take (k + 1) ++ List.replicate (n - (k + 1)) (Is (.agg #[.bool false, .slice none 0 0])))))), (9, (.box 36 φ))] [(15, (Is (.int .i64 (k + 1 : Nat)))), (16, (Is (.bool true))), (13, (Ar 2 n φs)), (14, (Is (.int .i64 (n : Nat)))), (1, (Ar 1 n φs')), (2, (Fn2 φs φs' ψs))] B8 a8 W8 := S8
    refine thenN ?_
    exact ⟨k + 1, ⟨by omega, B8, S8.sub [0] [2, 3, 0, 4, 5]⟩, by omega⟩
  · have hend := fill_end (z := Is (.agg #[.bool false, .slice none 0 0])) (xs := (ψs.map (· w.heap.size))) (n := n) (k := k) (by simp [hl']) (by omega)
    refine wp_stmt_seq [.val (Is (.bool false))] [.inr 0] [.inl 0, .inr 0, .inr 1, .inr 2, .inr 3, .inr 4] follows S4 rfl (by kernel_rfl) ?_ ?_
    · refine ⟨trivial, ?_⟩
      · exact owe_bin rfl (wants_all rfl) rfl (opnd_slot 2 15 rfl (by kernel_rfl)) (opnd_slot 1 14 rfl (by kernel_rfl)) rfl (fun ρ w h1 h2 => by exact run_lss_int_f ρ _ _ _ w _ _ (by omega) h1 h2)
    intro B5 a5 W5 S5
    replace S5 : Sta w 32 [(7, (.row 36 2 n (CE 2 ((ψs.map (· w.heap.size)).take k ++ List.replicate (n - k) (Is (.agg #[.bool false, .slice none 0 0]))))))] [(16, (Is (.bool false))), (13, (Ar 2 n φs)), (14, (Is (.int .i64 (n : Nat)))), (15, (Is (.int .i64 k))), (1, (Ar 1 n φs')), (2, (Fn2 φs φs' ψs))] B5 a5 W5 := S5
    refine wp_seq ?_
    refine wp_cond_false (S5.bool 0 16 rfl) ?_
    refine wp_exit ?_
    refine thenX ?_
    refine thenX ?_
    refine inBlkE ?_
    refine thenN ?_
    obtain ⟨B6, S6⟩ : ∃ Bq, Sta w 32 [] [(7, ((LF 2 n ψs) w.heap.size)), (16, (Is (.bool false))), (13, (Ar 2 n φs)), (14, (Is (.int .i64 (n : Nat)))), (15, (Is (.int .i64 k))), (1, (Ar 1 n φs')), (2, (Fn2 φs φs' ψs))] Bq a5 W5 := ⟨_, S5.freeze 0 rfl (by simp) (fun v w' xs ho hc => row_lf (by decide) v w' xs ho (by rw [hend] at hc; exact hc))⟩
    obtain ⟨a6, W6, e1, e2⟩ : ∃ a W, a5 = a ∧ W5 = W := ⟨_, _, rfl, rfl⟩
    rw [e1, e2] at S6 ⊢
    clear e1 e2
    refine wp_stmt_seq [.val ((LF 2 n ψs) w.heap.size),
      .val ((LF 2 n ψs) w.heap.size)] [] [.inl 1, .inr 0, .inr 1, .inr 2, .inr 3, .inr 4, .inr 5, .inr 6] follows S6 rfl (by kernel_rfl) ?_ ?_
    · refine ⟨⟨trivial, ?_⟩, ?_⟩
      · exact owe_move rfl (wants_all rfl) (Or.inl rfl) (opnd_slot 0 7 rfl (by kernel_rfl)) rfl
      · exact owe_move rfl (wants_all rfl) (Or.inr rfl) (opnd_op 0 31 (by kernel_rfl) rfl) rfl
    intro B7 a7 W7 S7
    replace S7 : Sta w 32 [] [(6, ((LF 2 n ψs) w.heap.size)), (7, ((LF 2 n ψs) w.heap.size)), (16, (Is (.bool false))), (13, (Ar 2 n φs)), (14, (Is (.int .i64 (n : Nat)))), (15, (Is (.int .i64 k))), (1, (Ar 1 n φs')), (2, (Fn2 φs φs' ψs))] B7 a7 W7 := S7
    refine wp_ret ?_
    exact end_one S7 rfl (res_tmp S7 0 6 rfl)


/-! Sums of rows. -/
/-- The entry j of the sum of the rows, each as many times as its number says. -/
def wei (xs : List Int) (B : List (List Int)) (j : Nat) : Int := sumZ (List.zipWith (fun a r => a * r.getD j 0) xs B)
def combZ (xs : List Int) (B : List (List Int)) (x : Nat) : List Int := (List.range x).map (fun j => wei xs B j)
theorem dl_wei {xs : List Int} {B : List (List Int)} {k k' x j : Nat} (h : Dl xs k) (h' : Mdl B k') (hR : Reg B x) (hj : j < x) : Dl (List.zipWith (fun a r => a * r.getD j 0) xs B) (k + k') := fun i z hz => by
  obtain ⟨a, r, ha, hr, rfl⟩ := zip_get hz
  have hlt : j < r.length := by rw [hR i r hr]; exact hj
  refine dl_mul (h i a ha) ?_
  rw [List.getD_eq_getElem?_getD, List.getElem?_eq_getElem hlt]
  exact h' i r hr j _ (List.getElem?_eq_getElem hlt)
theorem wei_len {xs : List Int} {B : List (List Int)} {k k' x j n : Nat} (h : Dl xs k) (h' : Mdl B k') (hR : Reg B x) (hj : j < x) (hn : xs.length = n) : (digs (wei xs B j).natAbs).length ≤ k + k' + n := by
  have := sumZ_len (dl_wei h h' hR hj) n
  rwa [List.take_of_length_le (by simp; omega)] at this
theorem h_pairs2 {n k k' x : Nat} {As : List Int} {B : List (List Int)} {F : Int → List Int → Int} (hn : n ≤ 1048576) : ∀ w u v f, Hs w (Vv n As k) u → Hs w (Mv n B k') v → Hs w (Fn2 (As.map (fun z => Zv z k)) (B.map (fun zs => Vv zs.length zs k')) (List.zipWith (fun a b => ZN (F a b)) As B)) f → Calls Tryd.prog 55 #[u, v, f] w (Gives (VN n (List.zipWith F As B)) w) := fun w u v f hu hv hf => by
  have hA := vv_len hu.now
  have hB := mv_len hv.now
  rw [show (VN n (List.zipWith F As B)) = LF 2 n (List.zipWith (fun a b => ZN (F a b)) As B) from by simp only [VN, zip_map]]
  exact pairs2_w w u v f n _ _ _ (by simp [hA]) (by simp [hB]) (by simp [hA, hB]) hu hv hf (fun i φ h => by obtain ⟨a, _, rfl⟩ := map_get h; exact shp_zv) (fun i φ h => by obtain ⟨a, _, rfl⟩ := map_get h; exact cel_vv) (fun i ψ h => by obtain ⟨a, b, _, _, rfl⟩ := zip_get h; exact ⟨fresh_zn _, fun lo => shp_zn⟩) hn

set_option maxHeartbeats 400000 in
theorem weighed1_w (w : World) (u v c : Value) (k k' x j : Nat) (A y : Int) (r : List Int) (h : Hs w (Zv A k) u) (h' : Hs w (Vv x r k') v) (hc : Hs w (AtE 1 (Is (.int .i64 (j : Nat)))) c) (hj : r[j]? = some y) (hs : k + k' ≤ 1073741824) :
    Calls Tryd.prog 56 #[u, v, c] w (Gives (ZN (A * y)) w) := by
  refine calls_sta (sl := [(0, (Zv A k)), (1, (Vv x r k')), (2, (AtE 1 (Is (.int .i64 (j : Nat)))))]) Tryd.func56 rfl Tryd.ntmps56 (by simp) (args_cons rfl (h) (args_cons rfl (h') (args_cons rfl (hc) args_nil))) ?_
  intro a0 S0
  refine wp_stmt_seq [.new (.box 36 (Zv A k)),
      .new (.box 36 (Is (.agg #[.bool false, .slice none 0 0])))] [.inl 0, .inl 1] [.inr 1, .inr 2] follows S0 rfl (by kernel_rfl) ?_ ?_
  · refine ⟨⟨trivial, ?_⟩, ?_⟩
    · exact owe_box rfl (wants_all rfl) rfl (opnd_slot 0 0 rfl (by kernel_rfl)) rfl (fun ρ w h => box_int shp_zv ρ _ _ w h)
    · exact owe_new rfl (wants_all rfl) rfl rfl (fun ρ w => alloc_int ρ _ w)
  intro B1 a1 W1 S1
  replace S1 : Sta w 12 [(3, (.box 36 (Zv A k))), (5, (.box 36 (Is (.agg #[.bool false, .slice none 0 0]))))] [(1, (Vv x r k')), (2, (AtE 1 (Is (.int .i64 (j : Nat)))))] B1 a1 W1 := S1
  refine wp_stmt_seq [.val (Zv A k),
      .val (Vv x r k'),
      .val (Is (.int .i64 (j : Nat))),
      .val (AtE 2 (Zv y k')),
      .val (Zv y k'),
      .val ((ZN (A * y)) w.heap.size),
      .put (.inl 5) (.box 36 ((ZN (A * y)) w.heap.size))] [.inr 0, .inr 1] [] follows S1 rfl (by kernel_rfl) ?_ ?_
  · refine ⟨⟨⟨⟨⟨⟨⟨trivial, ?_⟩, ?_⟩, ?_⟩, ?_⟩, ?_⟩, ?_⟩, ?_⟩
    · exact owe_load rfl (wants_all rfl) rfl (k := 0) rfl (by kernel_rfl) (loads_of strct_int shp_zv) rfl
    · exact owe_move rfl (wants_all rfl) (Or.inl rfl) (opnd_slot 0 1 rfl (by kernel_rfl)) rfl
    · exact owe_aload rfl (wants_all rfl) rfl ldr_i1 (by decide) (cel_is rfl) (opnd_slot 1 2 rfl (by kernel_rfl)) rfl
    · exact owe_aindex rfl (wants_all rfl) rfl idx_ints (opnd_op 1 7 (by kernel_rfl) rfl) (opnd_op 2 8 (by kernel_rfl) rfl) (map_get' _ hj) rfl
    · exact owe_aload rfl (wants_all rfl) rfl ldr_int (by decide) (cel_shp (by decide) shp_zv) (opnd_op 3 9 (by kernel_rfl) rfl) rfl
    · exact owe_callh2 rfl (wants_all rfl) rfl (opnd_op 0 6 (by kernel_rfl) rfl) (opnd_op 4 10 (by kernel_rfl) rfl) (fresh_zn _) rfl (fun args w => by go_simp) (fun w u0 u1 h0 h1 => (g_zmul (by omega)) w u0 u1 ((fun _ _ h => h) _ _ h0.now) ((fun _ _ h => h) _ _ h1.now))
    · exact owe_set rfl (wants_all rfl) rfl (k := 1) rfl (by kernel_rfl) (opnd_op 5 11 (by kernel_rfl) rfl) (stores_of strct_int shp_z0 shp_zn) rfl
  intro B2 a2 W2 S2
  replace S2 : Sta w 12 [(3, (.box 36 (Zv A k))), (5, (.box 36 ((ZN (A * y)) w.heap.size)))] [] B2 a2 W2 := S2
  refine wp_ret ?_
  exact end_one S2 rfl (res_cell S2 1 5 rfl strct_int shp_zn)

set_option maxHeartbeats 400000 in
theorem weighed_w (w : World) (u v : Value) (n k k' x j : Nat) (As : List Int) (B : List (List Int)) (h : Hs w (Vv n As k) u) (h' : Hs w (Mv n B k') v) (hR : Reg B x) (hj : j < x) (hn : n ≤ 1048576) (hs : k + k' ≤ 1073741824) :
    Calls Tryd.prog 33 #[u, v, .int .i64 (j : Nat)] w (Gives (ZN (wei As B j)) w) := by
  have hA := vv_len h.now
  have hB := mv_len h'.now
  have hd := dl_wei (vv_dl h.now) (mv_mdl' h'.now) hR hj
  have hd2 : Dl (List.zipWith (fun a r => a * r.getD j 0) As B) 1073741824 := fun i z hz => Nat.le_trans (hd i z hz) hs
  have hlz : (List.zipWith (fun a r => a * r.getD j 0) As B).length = n := by simp [hA, hB]
  refine calls_sta (sl := [(0, (Vv n As k)), (1, (Mv n B k')), (2, (Is (.int .i64 (j : Nat))))]) Tryd.func33 rfl Tryd.ntmps33 (by simp) (args_cons rfl (h) (args_cons rfl (h') (args_cons rfl (is_has _) args_nil))) ?_
  intro a0 S0
  refine wp_stmt_seq [.new (.box 3 (Is (.int .i64 (j : Nat)))),
      .new (.box 36 (Is (.agg #[.bool false, .slice none 0 0])))] [.inl 0, .inl 1] [.inr 0, .inr 1] follows S0 rfl (by kernel_rfl) ?_ ?_
  · refine ⟨⟨trivial, ?_⟩, ?_⟩
    · exact owe_box rfl (wants_all rfl) rfl (opnd_slot 2 2 rfl (by kernel_rfl)) rfl (fun ρ w h => bx1_i ρ _ _ w ((cel_is rfl) _ _ h))
    · exact owe_new rfl (wants_all rfl) rfl rfl (fun ρ w => alloc_int ρ _ w)
  intro B1 a1 W1 S1
  replace S1 : Sta w 12 [(5, (.box 3 (Is (.int .i64 (j : Nat))))), (6, (.box 36 (Is (.agg #[.bool false, .slice none 0 0]))))] [(0, (Vv n As k)), (1, (Mv n B k'))] B1 a1 W1 := S1
  obtain ⟨B2, S2⟩ : ∃ Bq, Sta w 12 [(6, (.box 36 (Is (.agg #[.bool false, .slice none 0 0]))))] [(5, (AtE 1 (Is (.int .i64 (j : Nat))))), (0, (Vv n As k)), (1, (Mv n B k'))] Bq a1 W1 := ⟨_, S1.freezeBox 0 rfl (by simp) (cel_is rfl)⟩
  obtain ⟨a2, W2, e1, e2⟩ : ∃ a W, a1 = a ∧ W1 = W := ⟨_, _, rfl, rfl⟩
  rw [e1, e2] at S2 ⊢
  clear e1 e2
  refine wp_stmt_seq [.val (Vv n As k),
      .val (Mv n B k'),
      .val (Fn2 (As.map (fun z => Zv z k)) (B.map (fun zs => Vv zs.length zs k')) (List.zipWith (fun a r => ZN (a * r.getD j 0)) As B)),
      .val ((VN n (List.zipWith (fun a r => a * r.getD j 0) As B)) w.heap.size),
      .val ((ZN (wei As B j)) w.heap.size),
      .put (.inl 6) (.box 36 ((ZN (wei As B j)) w.heap.size))] [.inr 0] [] follows S2 rfl (by kernel_rfl) ?_ ?_
  · refine ⟨⟨⟨⟨⟨⟨trivial, ?_⟩, ?_⟩, ?_⟩, ?_⟩, ?_⟩, ?_⟩
    · exact owe_move rfl (wants_all rfl) (Or.inl rfl) (opnd_slot 1 0 rfl (by kernel_rfl)) rfl
    · exact owe_move rfl (wants_all rfl) (Or.inl rfl) (opnd_slot 2 1 rfl (by kernel_rfl)) rfl
    · exact owe_mkfn2 rfl (wants_all rfl) rfl (opnd_slot 0 5 rfl (by kernel_rfl)) rfl (fun args w => by go_simp) (fun i φ φ' ψ h1 h2 h3 w u v c hu hv hc => by obtain ⟨a, ha, rfl⟩ := map_get h1; obtain ⟨r, hr, rfl⟩ := map_get h2; obtain ⟨a', r', ha', hr', rfl⟩ := zip_get h3; rw [ha] at ha'; rw [hr] at hr'; cases ha'; cases hr'; have hlt : j < r.length := (by rw [hR i r hr]; exact hj); rw [List.getD_eq_getElem?_getD, List.getElem?_eq_getElem hlt]; exact weighed1_w w u v c k k' _ j a _ r hu hv hc (List.getElem?_eq_getElem hlt) hs)
    · exact owe_callh3 rfl (wants_all rfl) rfl (opnd_op 0 7 (by kernel_rfl) rfl) (opnd_op 1 8 (by kernel_rfl) rfl) (opnd_op 2 9 (by kernel_rfl) rfl) fresh_vn rfl (fun args w => by go_simp) (h_pairs2 (x := x) (F := fun a r => a * r.getD j 0) hn)
    · exact owe_callh1 rfl (wants_all rfl) rfl (opnd_op 3 10 (by kernel_rfl) rfl) (fresh_zn _) rfl (fun args w => by go_simp) (h_zsum hn hlz hd2)
    · exact owe_set rfl (wants_all rfl) rfl (k := 0) rfl (by kernel_rfl) (opnd_op 4 11 (by kernel_rfl) rfl) (stores_of strct_int shp_z0 shp_zn) rfl
  intro B3 a3 W3 S3
  replace S3 : Sta w 12 [(6, (.box 36 ((ZN (wei As B j)) w.heap.size)))] [] B3 a3 W3 := S3
  refine wp_ret ?_
  exact end_one S3 rfl (res_cell S3 0 6 rfl strct_int shp_zn)

set_option maxHeartbeats 400000 in
theorem comb_y (w : World) (u v : Value) (n k k' : Nat) (As : List Int) (B : List (List Int)) (h : Hs w (Vv n As k) u) (h' : Hs w (Mv n B k') v) (hn : n ≤ 1048576) (hs : k + k' ≤ 1073741824) (x : Nat) (hx : x ≤ 1048576) (hR : Reg B x) (h0 : n = 0 → x = 0) :
    Calls Tryd.prog 16 #[u, v] w (Gives (TWO (VN x (combZ As B x)) (IS (.int .i64 0))) w) := by
  have hcl : (combZ As B x).length = x := by simp [combZ]
  refine calls_sta (sl := [(0, (Vv n As k)), (1, (Mv n B k'))]) Tryd.func16 rfl Tryd.ntmps16 (by simp) (args_cons rfl (h) (args_cons rfl (h') args_nil)) ?_
  intro a0 S0
  refine wp_stmt_seq [.val (Is (.slice none 0 0)),
      .val (Is (.int .i64 0))] [] [.inl 0, .inl 1, .inr 0, .inr 1] follows S0 rfl (by kernel_rfl) ?_ ?_
  · refine ⟨⟨trivial, ?_⟩, ?_⟩
    · exact owe_move rfl (wants_all rfl) (Or.inr rfl) (opnd_const _) rfl
    · exact owe_move rfl (wants_all rfl) (Or.inr rfl) (opnd_const _) rfl
  intro B1 a1 W1 S1
  replace S1 : Sta w 41 [] [(4, (Is (.slice none 0 0))), (5, (Is (.int .i64 0))), (0, (Vv n As k)), (1, (Mv n B k'))] B1 a1 W1 := S1
  refine wp_stmt_seq [.val (Mv n B k'),
      .val ((THREE (IS (.int .i64 (n : Nat))) (IS (.int .i64 (x : Nat))) (IS (.int .i64 0))) w.heap.size),
      .val ((THREE (IS (.int .i64 (n : Nat))) (IS (.int .i64 (x : Nat))) (IS (.int .i64 0))) w.heap.size),
      .val (Is (.int .i64 (n : Nat))),
      .val (Is (.int .i64 (x : Nat))),
      .val (Is (.int .i64 0)),
      .val (Is (.int .i64 (n : Nat))),
      .val (Is (.int .i64 (x : Nat))),
      .val (Is (.int .i64 0))] [] [.inl 6, .inl 7, .inl 8, .inr 0, .inr 1, .inr 2, .inr 3] follows S1 rfl (by kernel_rfl) ?_ ?_
  · refine ⟨⟨⟨⟨⟨⟨⟨⟨⟨trivial, ?_⟩, ?_⟩, ?_⟩, ?_⟩, ?_⟩, ?_⟩, ?_⟩, ?_⟩, ?_⟩
    · exact owe_move rfl (wants_all rfl) (Or.inl rfl) (opnd_slot 3 1 rfl (by kernel_rfl)) rfl
    · exact owe_callh1 rfl (wants_all rfl) rfl (opnd_op 0 12 (by kernel_rfl) rfl) (fresh_three (fresh_is _) (fresh_is _) (fresh_is _)) rfl (fun args w => by go_simp) (fun w u h => h_shape_y w u n _ x _ h (by omega) hR h0)
    · exact owe_move rfl (wants_all rfl) (Or.inl rfl) (opnd_op 1 13 (by kernel_rfl) rfl) rfl
    · exact owe_ext3 rfl (wants_all rfl) rfl (opnd_op 2 11 (by kernel_rfl) rfl) (Or.inl ⟨rfl, rfl⟩) rfl
    · exact owe_ext3 rfl (wants_all rfl) rfl (opnd_op 2 11 (by kernel_rfl) rfl) (Or.inr (Or.inl ⟨rfl, rfl⟩)) rfl
    · exact owe_ext3 rfl (wants_all rfl) rfl (opnd_op 2 11 (by kernel_rfl) rfl) (Or.inr (Or.inr ⟨rfl, rfl⟩)) rfl
    · exact owe_move rfl (wants_all rfl) (Or.inr rfl) (opnd_op 3 14 (by kernel_rfl) rfl) rfl
    · exact owe_move rfl (wants_all rfl) (Or.inr rfl) (opnd_op 4 15 (by kernel_rfl) rfl) rfl
    · exact owe_move rfl (wants_all rfl) (Or.inr rfl) (opnd_op 5 16 (by kernel_rfl) rfl) rfl
  intro B2 a2 W2 S2
  replace S2 : Sta w 41 [] [(6, (Is (.int .i64 (n : Nat)))), (7, (Is (.int .i64 (x : Nat)))), (8, (Is (.int .i64 0))), (4, (Is (.slice none 0 0))), (5, (Is (.int .i64 0))), (0, (Vv n As k)), (1, (Mv n B k'))] B2 a2 W2 := S2
  refine wp_seq ?_
  refine wp_stmt_seq [.val (Is (.int .i64 0)),
      .val (Is (.bool false)),
      .val (Is (.bool false)),
      .val (Vv n As k),
      .val (Is (.int .i64 (n : Nat))),
      .val (Is (.int .i64 (n : Nat))),
      .val (Is (.bool false)),
      .val (Is (.bool false))] [] [.inl 7, .inr 1, .inr 3, .inr 4, .inr 5, .inr 6] follows S2 rfl (by kernel_rfl) ?_ ?_
  · refine ⟨⟨⟨⟨⟨⟨⟨⟨trivial, ?_⟩, ?_⟩, ?_⟩, ?_⟩, ?_⟩, ?_⟩, ?_⟩, ?_⟩
    · exact owe_move rfl (wants_all rfl) (Or.inl rfl) (opnd_slot 2 8 rfl (by kernel_rfl)) rfl
    · exact owe_bin rfl (wants_all rfl) rfl (opnd_op 0 17 (by kernel_rfl) rfl) (opnd_const _) rfl (fun ρ w h1 h2 => by exact run_neq_errno_f ρ _ _ _ w _ _ (by omega) h1 h2)
    · exact owe_move rfl (wants_all rfl) (Or.inl rfl) (opnd_op 1 18 (by kernel_rfl) rfl) rfl
    · exact owe_move rfl (wants_if 2 19 rfl (by kernel_rfl) rfl) (Or.inl rfl) (opnd_slot 5 0 rfl (by kernel_rfl)) rfl
    · exact owe_len rfl (wants_if 2 19 rfl (by kernel_rfl) rfl) rfl (opnd_op 3 20 (by kernel_rfl) rfl) ar_len Tryd.underlying23 rfl
    · exact owe_move rfl (wants_if 2 19 rfl (by kernel_rfl) rfl) (Or.inl rfl) (opnd_slot 0 6 rfl (by kernel_rfl)) rfl
    · exact owe_bin rfl (wants_if 2 19 rfl (by kernel_rfl) rfl) rfl (opnd_op 4 21 (by kernel_rfl) rfl) (opnd_op 5 22 (by kernel_rfl) rfl) rfl (fun ρ w h1 h2 => by exact run_neq_int_f ρ _ _ _ w _ _ (by omega) h1 h2)
    · exact owe_pick rfl (wants_all rfl) rfl (opnd_op 2 19 (by kernel_rfl) rfl) (fun h => nomatch h) (fun _ => (opnd_op 6 23 (by kernel_rfl) rfl)) rfl
  intro B3 a3 W3 S3
  replace S3 : Sta w 41 [] [(24, (Is (.bool false))), (7, (Is (.int .i64 (x : Nat)))), (4, (Is (.slice none 0 0))), (5, (Is (.int .i64 0))), (0, (Vv n As k)), (1, (Mv n B k'))] B3 a3 W3 := S3
  refine wp_cond_false (S3.bool 0 24 rfl) ?_
  refine wp_skip ?_
  refine thenN ?_
  refine wp_stmt_seq [.val (Is (.int .i64 (x : Nat))),
      .new (.row 36 2 x (CE 2 (List.replicate x (Is (.agg #[.bool false, .slice none 0 0]))))),
      .ref 1] [.inl 2] [.inr 0, .inr 2, .inr 3, .inr 4, .inr 5] follows S3 rfl (by kernel_rfl) ?_ ?_
  · refine ⟨⟨⟨trivial, ?_⟩, ?_⟩, ?_⟩
    · exact owe_move rfl (wants_all rfl) (Or.inl rfl) (opnd_slot 1 7 rfl (by kernel_rfl)) rfl
    · exact owe_makeE rfl (wants_all rfl) rfl Tryd.underlying23 infoInt celv_z0 (by decide) (opnd_op 0 25 (by kernel_rfl) rfl) ⟨by omega, by unfold maxLen; omega⟩ rfl
    · exact owe_ref 1 rfl (wants_all rfl) (Or.inr rfl) (by kernel_rfl) rfl rfl
  intro B4 a4 W4 S4
  replace S4 : Sta w 41 [(9, (.row 36 2 x (CE 2 (List.replicate x (Is (.agg #[.bool false, .slice none 0 0]))))))] [(24, (Is (.bool false))), (4, (Is (.slice none 0 0))), (5, (Is (.int .i64 0))), (0, (Vv n As k)), (1, (Mv n B k'))] B4 a4 W4 := S4
  refine wp_seq ?_
  refine wp_stmt_seq [.val (Is (a4.eval (.tmp 9))),
      .val (Is (.int .i64 (x : Nat))),
      .val (Is (.int .i64 0))] [.inr 0] [.inl 1, .inl 2, .inr 0, .inr 1, .inr 2, .inr 3, .inr 4] follows S4 rfl (by kernel_rfl) ?_ ?_
  · refine ⟨⟨⟨trivial, ?_⟩, ?_⟩, ?_⟩
    · exact owe_same rfl (wants_all rfl) (Or.inl rfl) (by kernel_rfl) rfl
    · exact owe_lenrow rfl (wants_all rfl) rfl Tryd.underlying23 (opnd_op 0 27 (by kernel_rfl) rfl) (k := 0) rfl (by kernel_rfl) rfl
    · exact owe_move rfl (wants_all rfl) (Or.inl rfl) (opnd_const _) rfl
  intro B5 a5 W5 S5
  replace S5 : Sta w 41 [(9, (.row 36 2 x (CE 2 (List.replicate x (Is (.agg #[.bool false, .slice none 0 0]))))))] [(28, (Is (.int .i64 (x : Nat)))), (29, (Is (.int .i64 0))), (24, (Is (.bool false))), (4, (Is (.slice none 0 0))), (5, (Is (.int .i64 0))), (0, (Vv n As k)), (1, (Mv n B k'))] B5 a5 W5 := S5
  refine wp_block ?_
  refine wp_loop_ghost (fun (k0 : Nat) a W => (k0 ≤ x) ∧ ∃ Bq, Sta w 41 [(9, (.row 36 2 x (CE 2 ((((combZ As B x).map ZN).map (· w.heap.size)).take k0 ++ List.replicate (x - k0) (Is (.agg #[.bool false, .slice none 0 0]))))))] [(28, (Is (.int .i64 (x : Nat)))), (29, (Is (.int .i64 k0))), (0, (Vv n As k)), (1, (Mv n B k'))] Bq a W) (fun (k0 : Nat) => x - k0) ?_ 0 ⟨Nat.zero_le _, B5, S5.sub [0] [0, 1, 5, 6]⟩
  rintro k0 a6 W6 ⟨hcond, B6, S6⟩
  by_cases hlt : k0 < x
  · have hz : (combZ As B x)[k0]? = some (wei As B k0) := map_get' _ (List.getElem?_range hlt)
    have hset := set_next (z := Is (.agg #[.bool false, .slice none 0 0])) (xs := (((combZ As B x).map ZN).map (· w.heap.size))) (n := x) (by simp [hcl]) (map_get' (· w.heap.size) (map_get' ZN hz))
    refine wp_stmt_seq [.val (Is (.bool true))] [.inr 0] [.inl 0, .inr 0, .inr 1, .inr 2, .inr 3] follows S6 rfl (by kernel_rfl) ?_ ?_
    · refine ⟨trivial, ?_⟩
      · exact owe_bin rfl (wants_all rfl) rfl (opnd_slot 1 29 rfl (by kernel_rfl)) (opnd_slot 0 28 rfl (by kernel_rfl)) rfl (fun ρ w h1 h2 => by exact run_lss_int_t ρ _ _ _ w _ _ (by omega) h1 h2)
    intro B7 a7 W7 S7
    replace S7 : Sta w 41 [(9, (.row 36 2 x (CE 2 ((((combZ As B x).map ZN).map (· w.heap.size)).take k0 ++ List.replicate (x - k0) (Is (.agg #[.bool false, .slice none 0 0]))))))] [(30, (Is (.bool true))), (28, (Is (.int .i64 (x : Nat)))), (29, (Is (.int .i64 k0))), (0, (Vv n As k)), (1, (Mv n B k'))] B7 a7 W7 := S7
    refine wp_seq ?_
    refine wp_cond_true (S7.bool 0 30 rfl) ?_
    refine wp_skip ?_
    refine thenN ?_
    refine wp_seq ?_
    refine wp_block ?_
    refine wp_stmt_seq [.val (Is (.int .i64 k0)),
      .val (Is (.int .i64 k0))] [.inr 0] [.inl 1, .inr 0, .inr 1, .inr 2, .inr 3, .inr 4] follows S7 rfl (by kernel_rfl) ?_ ?_
    · refine ⟨⟨trivial, ?_⟩, ?_⟩
      · exact owe_move rfl (wants_all rfl) (Or.inl rfl) (opnd_slot 2 29 rfl (by kernel_rfl)) rfl
      · exact owe_move rfl (wants_all rfl) (Or.inr rfl) (opnd_op 0 31 (by kernel_rfl) rfl) rfl
    intro B8 a8 W8 S8
    replace S8 : Sta w 41 [(9, (.row 36 2 x (CE 2 ((((combZ As B x).map ZN).map (· w.heap.size)).take k0 ++ List.replicate (x - k0) (Is (.agg #[.bool false, .slice none 0 0]))))))] [(10, (Is (.int .i64 k0))), (30, (Is (.bool true))), (28, (Is (.int .i64 (x : Nat)))), (29, (Is (.int .i64 k0))), (0, (Vv n As k)), (1, (Mv n B k'))] B8 a8 W8 := S8
    refine wp_stmt [.val (Is (a8.eval (.tmp 9))),
      .val (Is (.int .i64 k0)),
      .val (Vv n As k),
      .val (Mv n B k'),
      .val (Is (.int .i64 k0)),
      .val ((ZN (wei As B k0)) w.heap.size),
      .val (REt a8 9 (2 * k0)),
      .put (.inl 9) (.row 36 2 x (CE 2 ((((combZ As B x).map ZN).map (· w.heap.size)).take (k0 + 1) ++ List.replicate (x - (k0 + 1)) (Is (.agg #[.bool false, .slice none 0 0])))))] [.inr 0] [.inr 1, .inr 2, .inr 3, .inr 4, .inr 5] follows S8 rfl (by kernel_rfl) ?_ ?_
    · refine ⟨⟨⟨⟨⟨⟨⟨⟨trivial, ?_⟩, ?_⟩, ?_⟩, ?_⟩, ?_⟩, ?_⟩, ?_⟩, ?_⟩
      · exact owe_same rfl (wants_all rfl) (Or.inl rfl) (by kernel_rfl) rfl
      · exact owe_move rfl (wants_all rfl) (Or.inl rfl) (opnd_slot 0 10 rfl (by kernel_rfl)) rfl
      · exact owe_move rfl (wants_all rfl) (Or.inl rfl) (opnd_slot 4 0 rfl (by kernel_rfl)) rfl
      · exact owe_move rfl (wants_all rfl) (Or.inl rfl) (opnd_slot 5 1 rfl (by kernel_rfl)) rfl
      · exact owe_move rfl (wants_all rfl) (Or.inl rfl) (opnd_slot 0 10 rfl (by kernel_rfl)) rfl
      · exact owe_callh3 rfl (wants_all rfl) rfl (opnd_op 2 34 (by kernel_rfl) rfl) (opnd_op 3 35 (by kernel_rfl) rfl) (opnd_op 4 36 (by kernel_rfl) rfl) (fresh_zn _) rfl (fun args w => by go_simp) (fun w u0 u1 u2 h0 h1 h2 => by obtain rfl : u2 = _ := h2.now; exact weighed_w w u0 u1 n k k' x k0 As B h0 h1 hR hlt hn hs)
      · exact owe_rindexE rfl (wants_all rfl) rfl idx_ints (opnd_op 0 32 (by kernel_rfl) rfl) (k := 0) rfl (by kernel_rfl) (opnd_op 1 33 (by kernel_rfl) rfl) hlt rfl
      · exact owe_rstoreE rfl (wants_all rfl) rfl sto_int (by decide) (opnd_op 6 38 (by kernel_rfl) rfl) (k := 0) rfl (by kernel_rfl) (opnd_op 5 37 (by kernel_rfl) rfl) (cel_shp (by decide) shp_zn) hlt (by rw [hset]; rfl)
    intro B9 a9 W9 S9
    replace S9 : Sta w 41 [(9, (.row 36 2 x (CE 2 ((((combZ As B x).map ZN).map (· w.heap.size)).take (k0 + 1) ++ List.replicate (x - (k0 + 1)) (Is (.agg #[.bool false, .slice none 0 0]))))))] [(30, (Is (.bool true))), (28, (Is (.int .i64 (x : Nat)))), (29, (Is (.int .i64 k0))), (0, (Vv n As k)), (1, (Mv n B k'))] B9 a9 W9 := S9
    refine inBlkN ?_
    refine thenN ?_
    refine wp_stmt [.val (Is (.int .i64 (k0 + 1 : Nat))),
      .val (Is (.int .i64 (k0 + 1 : Nat)))] [.inr 0] [.inl 1, .inr 0, .inr 1, .inr 3, .inr 4] follows S9 rfl (by kernel_rfl) ?_ ?_
    · refine ⟨⟨trivial, ?_⟩, ?_⟩
      · exact owe_bin rfl (wants_all rfl) rfl (opnd_slot 2 29 rfl (by kernel_rfl)) (opnd_const _) rfl (fun ρ w h1 h2 => by exact run_add_int ρ _ _ _ w _ _ _ ⟨by omega, by omega, by omega⟩ h1 h2)
      · exact owe_move rfl (wants_all rfl) (Or.inl rfl) (opnd_op 0 39 (by kernel_rfl) rfl) rfl
    intro B10 a10 W10 S10
    replace S10 : Sta w 41 [(9, (.row 36 2 x (CE 2 ((((combZ As B x).map ZN).map (· w.heap.size)).take (k0 + 1) ++ List.replicate (x - (k0 + 1)) (Is (.agg #[.bool false, .slice none 0 0]))))))] [(29, (Is (.int .i64 (k0 + 1 : Nat)))), (30, (Is (.bool true))), (28, (Is (.int .i64 (x : Nat)))), (0, (Vv n As k)), (1, (Mv n B k'))] B10 a10 W10 := S10
    refine thenN ?_
    exact ⟨k0 + 1, ⟨by omega, B10, S10.sub [0] [2, 0, 3, 4]⟩, by omega⟩
  · have hend := fill_end (z := Is (.agg #[.bool false, .slice none 0 0])) (xs := (((combZ As B x).map ZN).map (· w.heap.size))) (n := x) (k := k0) (by simp [hcl]) (by omega)
    refine wp_stmt_seq [.val (Is (.bool false))] [.inr 0] [.inl 0, .inr 0, .inr 1, .inr 2, .inr 3] follows S6 rfl (by kernel_rfl) ?_ ?_
    · refine ⟨trivial, ?_⟩
      · exact owe_bin rfl (wants_all rfl) rfl (opnd_slot 1 29 rfl (by kernel_rfl)) (opnd_slot 0 28 rfl (by kernel_rfl)) rfl (fun ρ w h1 h2 => by exact run_lss_int_f ρ _ _ _ w _ _ (by omega) h1 h2)
    intro B7 a7 W7 S7
    replace S7 : Sta w 41 [(9, (.row 36 2 x (CE 2 ((((combZ As B x).map ZN).map (· w.heap.size)).take k0 ++ List.replicate (x - k0) (Is (.agg #[.bool false, .slice none 0 0]))))))] [(30, (Is (.bool false))), (28, (Is (.int .i64 (x : Nat)))), (29, (Is (.int .i64 k0))), (0, (Vv n As k)), (1, (Mv n B k'))] B7 a7 W7 := S7
    refine wp_seq ?_
    refine wp_cond_false (S7.bool 0 30 rfl) ?_
    refine wp_exit ?_
    refine thenX ?_
    refine thenX ?_
    refine inBlkE ?_
    refine thenN ?_
    obtain ⟨B8, S8⟩ : ∃ Bq, Sta w 41 [] [(9, ((VN x (combZ As B x)) w.heap.size)), (30, (Is (.bool false))), (28, (Is (.int .i64 (x : Nat)))), (29, (Is (.int .i64 k0))), (0, (Vv n As k)), (1, (Mv n B k'))] Bq a7 W7 := ⟨_, S7.freeze 0 rfl (by simp) (fun v w' xs ho hc => row_lf (by decide) v w' xs ho (by rw [hend] at hc; exact hc))⟩
    obtain ⟨a8, W8, e1, e2⟩ : ∃ a W, a7 = a ∧ W7 = W := ⟨_, _, rfl, rfl⟩
    rw [e1, e2] at S8 ⊢
    clear e1 e2
    refine wp_stmt_seq [.val ((VN x (combZ As B x)) w.heap.size),
      .val ((VN x (combZ As B x)) w.heap.size),
      .val (Is (.int .i64 0))] [] [.inl 1, .inl 2, .inr 0, .inr 1, .inr 2, .inr 3, .inr 4, .inr 5] follows S8 rfl (by kernel_rfl) ?_ ?_
    · refine ⟨⟨⟨trivial, ?_⟩, ?_⟩, ?_⟩
      · exact owe_move rfl (wants_all rfl) (Or.inl rfl) (opnd_slot 0 9 rfl (by kernel_rfl)) rfl
      · exact owe_move rfl (wants_all rfl) (Or.inr rfl) (opnd_op 0 40 (by kernel_rfl) rfl) rfl
      · exact owe_move rfl (wants_all rfl) (Or.inr rfl) (opnd_const _) rfl
    intro B9 a9 W9 S9
    replace S9 : Sta w 41 [] [(4, ((VN x (combZ As B x)) w.heap.size)), (5, (Is (.int .i64 0))), (9, ((VN x (combZ As B x)) w.heap.size)), (30, (Is (.bool false))), (28, (Is (.int .i64 (x : Nat)))), (29, (Is (.int .i64 k0))), (0, (Vv n As k)), (1, (Mv n B k'))] B9 a9 W9 := S9
    refine wp_ret ?_
    exact end_two S9 rfl (res_tmp S9 0 4 rfl) (res_tmp S9 1 5 rfl)

set_option maxHeartbeats 400000 in
theorem comb_n (w : World) (u v : Value) (n m k k' : Nat) (As : List Int) (B : List (List Int)) (h : Hs w (Vv n As k) u) (h' : Hs w (Mv m B k') v) (hn : n ≤ 1048576) (hm : m ≤ 1048576) (hR : ¬ reg B = true) :
    Calls Tryd.prog 16 #[u, v] w (Gives (TWO (IS (.slice none 0 0)) (IS (.int .i64 8))) w) := by
  refine calls_sta (sl := [(0, (Vv n As k)), (1, (Mv m B k'))]) Tryd.func16 rfl Tryd.ntmps16 (by simp) (args_cons rfl (h) (args_cons rfl (h') args_nil)) ?_
  intro a0 S0
  refine wp_stmt_seq [.val (Is (.slice none 0 0)),
      .val (Is (.int .i64 0))] [] [.inl 0, .inl 1, .inr 0, .inr 1] follows S0 rfl (by kernel_rfl) ?_ ?_
  · refine ⟨⟨trivial, ?_⟩, ?_⟩
    · exact owe_move rfl (wants_all rfl) (Or.inr rfl) (opnd_const _) rfl
    · exact owe_move rfl (wants_all rfl) (Or.inr rfl) (opnd_const _) rfl
  intro B1 a1 W1 S1
  replace S1 : Sta w 41 [] [(4, (Is (.slice none 0 0))), (5, (Is (.int .i64 0))), (0, (Vv n As k)), (1, (Mv m B k'))] B1 a1 W1 := S1
  refine wp_stmt_seq [.val (Mv m B k'),
      .val ((THREE (IS (.int .i64 0)) (IS (.int .i64 0)) (IS (.int .i64 8))) w.heap.size),
      .val ((THREE (IS (.int .i64 0)) (IS (.int .i64 0)) (IS (.int .i64 8))) w.heap.size),
      .val (Is (.int .i64 0)),
      .val (Is (.int .i64 0)),
      .val (Is (.int .i64 8)),
      .val (Is (.int .i64 0)),
      .val (Is (.int .i64 0)),
      .val (Is (.int .i64 8))] [] [.inl 6, .inl 7, .inl 8, .inr 0, .inr 1, .inr 2, .inr 3] follows S1 rfl (by kernel_rfl) ?_ ?_
  · refine ⟨⟨⟨⟨⟨⟨⟨⟨⟨trivial, ?_⟩, ?_⟩, ?_⟩, ?_⟩, ?_⟩, ?_⟩, ?_⟩, ?_⟩, ?_⟩
    · exact owe_move rfl (wants_all rfl) (Or.inl rfl) (opnd_slot 3 1 rfl (by kernel_rfl)) rfl
    · exact owe_callh1 rfl (wants_all rfl) rfl (opnd_op 0 12 (by kernel_rfl) rfl) (fresh_three (fresh_is _) (fresh_is _) (fresh_is _)) rfl (fun args w => by go_simp) (fun w u h => h_shape_n w u m _ _ h (by omega) hR)
    · exact owe_move rfl (wants_all rfl) (Or.inl rfl) (opnd_op 1 13 (by kernel_rfl) rfl) rfl
    · exact owe_ext3 rfl (wants_all rfl) rfl (opnd_op 2 11 (by kernel_rfl) rfl) (Or.inl ⟨rfl, rfl⟩) rfl
    · exact owe_ext3 rfl (wants_all rfl) rfl (opnd_op 2 11 (by kernel_rfl) rfl) (Or.inr (Or.inl ⟨rfl, rfl⟩)) rfl
    · exact owe_ext3 rfl (wants_all rfl) rfl (opnd_op 2 11 (by kernel_rfl) rfl) (Or.inr (Or.inr ⟨rfl, rfl⟩)) rfl
    · exact owe_move rfl (wants_all rfl) (Or.inr rfl) (opnd_op 3 14 (by kernel_rfl) rfl) rfl
    · exact owe_move rfl (wants_all rfl) (Or.inr rfl) (opnd_op 4 15 (by kernel_rfl) rfl) rfl
    · exact owe_move rfl (wants_all rfl) (Or.inr rfl) (opnd_op 5 16 (by kernel_rfl) rfl) rfl
  intro B2 a2 W2 S2
  replace S2 : Sta w 41 [] [(6, (Is (.int .i64 0))), (7, (Is (.int .i64 0))), (8, (Is (.int .i64 8))), (4, (Is (.slice none 0 0))), (5, (Is (.int .i64 0))), (0, (Vv n As k)), (1, (Mv m B k'))] B2 a2 W2 := S2
  refine wp_seq ?_
  refine wp_stmt_seq [.val (Is (.int .i64 8)),
      .val (Is (.bool true)),
      .val (Is (.bool true)),
      .off,
      .off,
      .off,
      .off,
      .val (Is (.bool true))] [] [.inl 7, .inr 1, .inr 3, .inr 4, .inr 5, .inr 6] follows S2 rfl (by kernel_rfl) ?_ ?_
  · refine ⟨⟨⟨⟨⟨⟨⟨⟨trivial, ?_⟩, ?_⟩, ?_⟩, ?_⟩, ?_⟩, ?_⟩, ?_⟩, ?_⟩
    · exact owe_move rfl (wants_all rfl) (Or.inl rfl) (opnd_slot 2 8 rfl (by kernel_rfl)) rfl
    · exact owe_bin rfl (wants_all rfl) rfl (opnd_op 0 17 (by kernel_rfl) rfl) (opnd_const _) rfl (fun ρ w h1 h2 => by exact run_neq_errno_t ρ _ _ _ w _ _ (by omega) h1 h2)
    · exact owe_move rfl (wants_all rfl) (Or.inl rfl) (opnd_op 1 18 (by kernel_rfl) rfl) rfl
    · exact owe_off 2 19 rfl rfl rfl (by kernel_rfl) rfl (by decide)
    · exact owe_off 2 19 rfl rfl rfl (by kernel_rfl) rfl (by decide)
    · exact owe_off 2 19 rfl rfl rfl (by kernel_rfl) rfl (by decide)
    · exact owe_off 2 19 rfl rfl rfl (by kernel_rfl) rfl (by decide)
    · exact owe_pick rfl (wants_all rfl) rfl (opnd_op 2 19 (by kernel_rfl) rfl) (fun _ => (opnd_const _)) (fun h => nomatch h) rfl
  intro B3 a3 W3 S3
  replace S3 : Sta w 41 [] [(24, (Is (.bool true))), (7, (Is (.int .i64 0))), (4, (Is (.slice none 0 0))), (5, (Is (.int .i64 0))), (0, (Vv n As k)), (1, (Mv m B k'))] B3 a3 W3 := S3
  refine wp_cond_true (S3.bool 0 24 rfl) ?_
  refine wp_stmt_seq [.val (Is (.slice none 0 0)),
      .val (Is (.int .i64 8))] [] [.inl 0, .inl 1, .inr 0, .inr 1, .inr 4, .inr 5] follows S3 rfl (by kernel_rfl) ?_ ?_
  · refine ⟨⟨trivial, ?_⟩, ?_⟩
    · exact owe_move rfl (wants_all rfl) (Or.inr rfl) (opnd_const _) rfl
    · exact owe_move rfl (wants_all rfl) (Or.inr rfl) (opnd_const _) rfl
  intro B4 a4 W4 S4
  replace S4 : Sta w 41 [] [(4, (Is (.slice none 0 0))), (5, (Is (.int .i64 8))), (24, (Is (.bool true))), (7, (Is (.int .i64 0))), (0, (Vv n As k)), (1, (Mv m B k'))] B4 a4 W4 := S4
  refine wp_ret ?_
  refine thenR ?_
  exact end_two S4 rfl (res_tmp S4 0 4 rfl) (res_tmp S4 1 5 rfl)

set_option maxHeartbeats 400000 in
theorem comb_m (w : World) (u v : Value) (n m k k' : Nat) (As : List Int) (B : List (List Int)) (h : Hs w (Vv n As k) u) (h' : Hs w (Mv m B k') v) (hn : n ≤ 1048576) (hm : m ≤ 1048576) (x : Nat) (hR : Reg B x) (h0 : m = 0 → x = 0) (hne : n ≠ m) :
    Calls Tryd.prog 16 #[u, v] w (Gives (TWO (IS (.slice none 0 0)) (IS (.int .i64 8))) w) := by
  refine calls_sta (sl := [(0, (Vv n As k)), (1, (Mv m B k'))]) Tryd.func16 rfl Tryd.ntmps16 (by simp) (args_cons rfl (h) (args_cons rfl (h') args_nil)) ?_
  intro a0 S0
  refine wp_stmt_seq [.val (Is (.slice none 0 0)),
      .val (Is (.int .i64 0))] [] [.inl 0, .inl 1, .inr 0, .inr 1] follows S0 rfl (by kernel_rfl) ?_ ?_
  · refine ⟨⟨trivial, ?_⟩, ?_⟩
    · exact owe_move rfl (wants_all rfl) (Or.inr rfl) (opnd_const _) rfl
    · exact owe_move rfl (wants_all rfl) (Or.inr rfl) (opnd_const _) rfl
  intro B1 a1 W1 S1
  replace S1 : Sta w 41 [] [(4, (Is (.slice none 0 0))), (5, (Is (.int .i64 0))), (0, (Vv n As k)), (1, (Mv m B k'))] B1 a1 W1 := S1
  refine wp_stmt_seq [.val (Mv m B k'),
      .val ((THREE (IS (.int .i64 (m : Nat))) (IS (.int .i64 (x : Nat))) (IS (.int .i64 0))) w.heap.size),
      .val ((THREE (IS (.int .i64 (m : Nat))) (IS (.int .i64 (x : Nat))) (IS (.int .i64 0))) w.heap.size),
      .val (Is (.int .i64 (m : Nat))),
      .val (Is (.int .i64 (x : Nat))),
      .val (Is (.int .i64 0)),
      .val (Is (.int .i64 (m : Nat))),
      .val (Is (.int .i64 (x : Nat))),
      .val (Is (.int .i64 0))] [] [.inl 6, .inl 7, .inl 8, .inr 0, .inr 1, .inr 2, .inr 3] follows S1 rfl (by kernel_rfl) ?_ ?_
  · refine ⟨⟨⟨⟨⟨⟨⟨⟨⟨trivial, ?_⟩, ?_⟩, ?_⟩, ?_⟩, ?_⟩, ?_⟩, ?_⟩, ?_⟩, ?_⟩
    · exact owe_move rfl (wants_all rfl) (Or.inl rfl) (opnd_slot 3 1 rfl (by kernel_rfl)) rfl
    · exact owe_callh1 rfl (wants_all rfl) rfl (opnd_op 0 12 (by kernel_rfl) rfl) (fresh_three (fresh_is _) (fresh_is _) (fresh_is _)) rfl (fun args w => by go_simp) (fun w u h => h_shape_y w u m _ x _ h (by omega) hR h0)
    · exact owe_move rfl (wants_all rfl) (Or.inl rfl) (opnd_op 1 13 (by kernel_rfl) rfl) rfl
    · exact owe_ext3 rfl (wants_all rfl) rfl (opnd_op 2 11 (by kernel_rfl) rfl) (Or.inl ⟨rfl, rfl⟩) rfl
    · exact owe_ext3 rfl (wants_all rfl) rfl (opnd_op 2 11 (by kernel_rfl) rfl) (Or.inr (Or.inl ⟨rfl, rfl⟩)) rfl
    · exact owe_ext3 rfl (wants_all rfl) rfl (opnd_op 2 11 (by kernel_rfl) rfl) (Or.inr (Or.inr ⟨rfl, rfl⟩)) rfl
    · exact owe_move rfl (wants_all rfl) (Or.inr rfl) (opnd_op 3 14 (by kernel_rfl) rfl) rfl
    · exact owe_move rfl (wants_all rfl) (Or.inr rfl) (opnd_op 4 15 (by kernel_rfl) rfl) rfl
    · exact owe_move rfl (wants_all rfl) (Or.inr rfl) (opnd_op 5 16 (by kernel_rfl) rfl) rfl
  intro B2 a2 W2 S2
  replace S2 : Sta w 41 [] [(6, (Is (.int .i64 (m : Nat)))), (7, (Is (.int .i64 (x : Nat)))), (8, (Is (.int .i64 0))), (4, (Is (.slice none 0 0))), (5, (Is (.int .i64 0))), (0, (Vv n As k)), (1, (Mv m B k'))] B2 a2 W2 := S2
  refine wp_seq ?_
  refine wp_stmt_seq [.val (Is (.int .i64 0)),
      .val (Is (.bool false)),
      .val (Is (.bool false)),
      .val (Vv n As k),
      .val (Is (.int .i64 (n : Nat))),
      .val (Is (.int .i64 (m : Nat))),
      .val (Is (.bool true)),
      .val (Is (.bool true))] [] [.inl 7, .inr 1, .inr 3, .inr 4, .inr 5, .inr 6] follows S2 rfl (by kernel_rfl) ?_ ?_
  · refine ⟨⟨⟨⟨⟨⟨⟨⟨trivial, ?_⟩, ?_⟩, ?_⟩, ?_⟩, ?_⟩, ?_⟩, ?_⟩, ?_⟩
    · exact owe_move rfl (wants_all rfl) (Or.inl rfl) (opnd_slot 2 8 rfl (by kernel_rfl)) rfl
    · exact owe_bin rfl (wants_all rfl) rfl (opnd_op 0 17 (by kernel_rfl) rfl) (opnd_const _) rfl (fun ρ w h1 h2 => by exact run_neq_errno_f ρ _ _ _ w _ _ (by omega) h1 h2)
    · exact owe_move rfl (wants_all rfl) (Or.inl rfl) (opnd_op 1 18 (by kernel_rfl) rfl) rfl
    · exact owe_move rfl (wants_if 2 19 rfl (by kernel_rfl) rfl) (Or.inl rfl) (opnd_slot 5 0 rfl (by kernel_rfl)) rfl
    · exact owe_len rfl (wants_if 2 19 rfl (by kernel_rfl) rfl) rfl (opnd_op 3 20 (by kernel_rfl) rfl) ar_len Tryd.underlying23 rfl
    · exact owe_move rfl (wants_if 2 19 rfl (by kernel_rfl) rfl) (Or.inl rfl) (opnd_slot 0 6 rfl (by kernel_rfl)) rfl
    · exact owe_bin rfl (wants_if 2 19 rfl (by kernel_rfl) rfl) rfl (opnd_op 4 21 (by kernel_rfl) rfl) (opnd_op 5 22 (by kernel_rfl) rfl) rfl (fun ρ w h1 h2 => by exact run_neq_int_t ρ _ _ _ w _ _ (by omega) h1 h2)
    · exact owe_pick rfl (wants_all rfl) rfl (opnd_op 2 19 (by kernel_rfl) rfl) (fun h => nomatch h) (fun _ => (opnd_op 6 23 (by kernel_rfl) rfl)) rfl
  intro B3 a3 W3 S3
  replace S3 : Sta w 41 [] [(24, (Is (.bool true))), (7, (Is (.int .i64 (x : Nat)))), (4, (Is (.slice none 0 0))), (5, (Is (.int .i64 0))), (0, (Vv n As k)), (1, (Mv m B k'))] B3 a3 W3 := S3
  refine wp_cond_true (S3.bool 0 24 rfl) ?_
  refine wp_stmt_seq [.val (Is (.slice none 0 0)),
      .val (Is (.int .i64 8))] [] [.inl 0, .inl 1, .inr 0, .inr 1, .inr 4, .inr 5] follows S3 rfl (by kernel_rfl) ?_ ?_
  · refine ⟨⟨trivial, ?_⟩, ?_⟩
    · exact owe_move rfl (wants_all rfl) (Or.inr rfl) (opnd_const _) rfl
    · exact owe_move rfl (wants_all rfl) (Or.inr rfl) (opnd_const _) rfl
  intro B4 a4 W4 S4
  replace S4 : Sta w 41 [] [(4, (Is (.slice none 0 0))), (5, (Is (.int .i64 8))), (24, (Is (.bool true))), (7, (Is (.int .i64 (x : Nat)))), (0, (Vv n As k)), (1, (Mv m B k'))] B4 a4 W4 := S4
  refine wp_ret ?_
  refine thenR ?_
  exact end_two S4 rfl (res_tmp S4 0 4 rfl) (res_tmp S4 1 5 rfl)

def okC (As : List Int) (B : List (List Int)) : Bool := reg B && (As.length == B.length)
def combE (As : List Int) (B : List (List Int)) : List Int := if okC As B then combZ As B (wd B) else []
def combN (As : List Int) (B : List (List Int)) : Nat := if okC As B then wd B else 0
theorem ml_wd {B : List (List Int)} {x : Nat} (h : Ml B x) : wd B ≤ x := by
  cases B with
  | nil => exact Nat.zero_le _
  | cons a r => exact h 0 a rfl

theorem h_comb (w : World) (u v : Value) (n m k k' : Nat) (As : List Int) (B : List (List Int)) (h : Hs w (Vv n As k) u) (h' : Hs w (Mv m B k') v) (hn : n ≤ 1048576) (hm : m ≤ 1048576) (hs : k + k' ≤ 1073741824) (hL : Ml B 1048576) : Calls Tryd.prog 16 #[u, v] w (Gives (TWO (VN (combN As B) (combE As B)) (IS (.int .i64 (errB (okC As B))))) w) := by
  have hA := vv_len h.now
  have hB := mv_len h'.now
  by_cases e : reg B = true
  · have hR := reg_y e
    have h0 : m = 0 → wd B = 0 := fun h => wd_zero (by omega)
    by_cases e2 : n = m
    · have ho : okC As B = true := by simp [okC, e, hA, hB, e2]
      subst e2
      simp only [combN, combE, errB, ho, if_true]
      exact comb_y w u v n k k' As B h h' hn hs (wd B) (ml_wd hL) hR h0
    · have ho : okC As B = false := by simp [okC, e, hA, hB, e2]
      simp only [combN, combE, errB, ho, Bool.false_eq_true, if_false]
      exact give_two (comb_m w u v n m k k' As B h h' hn hm (wd B) hR h0 e2) nil_vn' (fun _ _ _ h => h)
  · have ho : okC As B = false := by simp [okC, e]
    simp only [combN, combE, errB, ho, Bool.false_eq_true, if_false]
    exact give_two (comb_n w u v n m k k' As B h h' hn hm e) nil_vn' (fun _ _ _ h => h)

end Go.Proofs.YtdhjgekbocnnkaaDoor
