/-
  Unit: mat's and the document's.
-/
import Derived.Test.YtdhjgekbocnnkaaDoorMProd
namespace Go.Proofs.YtdhjgekbocnnkaaDoor
open Go Go.RowKit Nt
set_option linter.unusedSimpArgs false
set_option linter.unusedVariables false
set_option maxRecDepth 20000


def unitF : Nat → Nat → Int := fun i j => if i = j then 1 else 0
def unitZ (n : Nat) : List (List Int) := (List.range n).map (fun i => (List.range n).map (fun j => unitF i j))
def dU (i : Nat) : Nat → Nat → Bool := fun a b => decide (a = b ∧ a < i)
/-- What was never written is 0. -/
theorem tbl_gl {n g lo : Nat} {F : Nat → Nat → Int} {D : Nat → Nat → Bool} (hxm : n ≤ maxLen) (hD : ∀ a b, a < n → b < n → D a b = false → F a b = 0) : ∀ v w (C : Nat → List Value), Tbl n n g lo v w → (∀ b, b = g → lo ≤ b ∧ w.heap[b]? = some (.cells (C b).toArray 36 (0, 0))) → CE 2 (gl lo n F D) (C g) w → MN n (grid n n F) lo v w := fun v w C ht hg hc =>
  tbl_mn (F := F) (fl := flat n n F) hxm (fun i j hi hj => flat_at hi hj) v w C ht hg (ce_imp (by simp [gl]) (fun p φ φ' h1 h2 v w hφ => by
    obtain ⟨q, hq, rfl⟩ := map_get h1
    obtain ⟨ψ, hψ, rfl⟩ := map_get h2
    obtain ⟨z, hz, rfl⟩ := map_get hψ
    obtain ⟨q', hq', rfl⟩ := map_get hz
    rw [hq] at hq'
    cases hq'
    have hlt : q < n * n := by
      have := List.mem_of_getElem? hq
      simpa using this
    have hn : 0 < n := by
      rcases Nat.eq_zero_or_pos n with e | e
      · rw [e] at hlt
        omega
      · exact e
    by_cases hd : D (q / n) (q % n) = true
    · rw [if_pos hd] at hφ
      exact hφ
    · rw [if_neg hd] at hφ
      rw [hD _ _ (Nat.div_lt_of_lt_mul hlt) (Nat.mod_lt _ hn) (by simpa using hd)]
      exact zero_zn' lo v w hφ) _ _ hc)

set_option maxHeartbeats 2000000 in
theorem unit_y (w : World) (n : Nat) (hn : n ≤ 64) :
    Calls Tryd.prog 29 #[.int .i64 (n : Nat)] w (Gives (TWO (MN n (unitZ n)) (IS (.int .i64 0))) w) := by
  have hn1 : n ≤ 1048576 := by omega
  have hb : 32 * (n * n) ≤ 281474976710656 := by have : n * n ≤ 1048576 * 1048576 := Nat.mul_le_mul hn1 hn1; omega
  have hxm : n ≤ maxLen := by unfold maxLen; omega
  refine calls_sta (sl := [(0, (Is (.int .i64 (n : Nat))))]) Tryd.func29 rfl Tryd.ntmps29 (by simp) (args_cons rfl (is_has _) args_nil) ?_
  intro a0 S0
  refine wp_stmt_seq [.val (Is (.slice none 0 0)),
      .val (Is (.int .i64 0))] [] [.inl 0, .inl 1, .inr 0] follows S0 rfl (by kernel_rfl) ?_ ?_
  · refine ⟨⟨trivial, ?_⟩, ?_⟩
    · exact owe_move rfl (wants_all rfl) (Or.inr rfl) (opnd_const _) rfl
    · exact owe_move rfl (wants_all rfl) (Or.inr rfl) (opnd_const _) rfl
  intro B1 a1 W1 S1
  replace S1 : Sta w 28 [] [(2, (Is (.slice none 0 0))), (3, (Is (.int .i64 0))), (0, (Is (.int .i64 (n : Nat))))] B1 a1 W1 := S1
  refine wp_seq ?_
  refine wp_block ?_
  refine wp_stmt_seq [.val (Is (.int .i64 (n : Nat))),
      .val (Is (.bool false)),
      .val (Is (.bool false))] [] [.inl 2, .inr 0, .inr 1, .inr 2] follows S1 rfl (by kernel_rfl) ?_ ?_
  · refine ⟨⟨⟨trivial, ?_⟩, ?_⟩, ?_⟩
    · exact owe_move rfl (wants_all rfl) (Or.inl rfl) (opnd_slot 2 0 rfl (by kernel_rfl)) rfl
    · exact owe_bin rfl (wants_all rfl) rfl (opnd_op 0 7 (by kernel_rfl) rfl) (opnd_const _) rfl (fun ρ w h1 h2 => by exact run_lss_int_f ρ _ _ _ w _ _ (by omega) h1 h2)
    · exact owe_move rfl (wants_all rfl) (Or.inr rfl) (opnd_op 1 8 (by kernel_rfl) rfl) rfl
  intro B2 a2 W2 S2
  replace S2 : Sta w 28 [] [(6, (Is (.bool false))), (2, (Is (.slice none 0 0))), (3, (Is (.int .i64 0))), (0, (Is (.int .i64 (n : Nat))))] B2 a2 W2 := S2
  refine wp_cond_false (S2.bool 0 6 rfl) ?_
  refine wp_stmt_seq [.val (Is (.int .i64 (n : Nat))),
      .val (Is (.bool false)),
      .val (Is (.bool false))] [] [.inl 2, .inr 0, .inr 1, .inr 2, .inr 3] follows S2 rfl (by kernel_rfl) ?_ ?_
  · refine ⟨⟨⟨trivial, ?_⟩, ?_⟩, ?_⟩
    · exact owe_move rfl (wants_all rfl) (Or.inl rfl) (opnd_slot 3 0 rfl (by kernel_rfl)) rfl
    · exact owe_bin rfl (wants_all rfl) rfl (opnd_op 0 10 (by kernel_rfl) rfl) (opnd_const _) rfl (fun ρ w h1 h2 => by exact run_gtr_int_f ρ _ _ _ w _ _ (by omega) h1 h2)
    · exact owe_move rfl (wants_all rfl) (Or.inr rfl) (opnd_op 1 11 (by kernel_rfl) rfl) rfl
  intro B3 a3 W3 S3
  replace S3 : Sta w 28 [] [(9, (Is (.bool false))), (6, (Is (.bool false))), (2, (Is (.slice none 0 0))), (3, (Is (.int .i64 0))), (0, (Is (.int .i64 (n : Nat))))] B3 a3 W3 := S3
  refine wp_cond_false (S3.bool 0 9 rfl) ?_
  refine wp_skip ?_
  refine inBlkN ?_
  refine thenN ?_
  refine wp_seq (wp_blank (h := n) (x := n) (t := 1000000) (ta := 12) (tb := 13) (tc := 14) (td := 4) (tx := 0) (ty := 0) rfl S3 (fun w => blank_w w (n) (n) (hn1) (hb)) rfl ⟨rfl, rfl, rfl⟩ ⟨rfl, rfl, rfl⟩ ⟨rfl, rfl, rfl⟩ ⟨rfl, rfl, rfl⟩ (S3.slot 4 0 rfl) (S3.slot 4 0 rfl) (by decide) [(9, (Is (.bool false))), (6, (Is (.bool false))), (2, (Is (.slice none 0 0))), (3, (Is (.int .i64 0))), (0, (Is (.int .i64 (n : Nat))))] (by simp) (by simp) ?_)
  intro g B4 a4 W4 S4
  refine thenN ?_
  replace S4 : Sta w 28 [(1000000, (Gr g 36 2 (List.replicate (n * n) (Is (.agg #[.bool false, .slice none 0 0])))))] [(4, ((Tbl n n g) w.heap.size)), (9, (Is (.bool false))), (6, (Is (.bool false))), (2, (Is (.slice none 0 0))), (3, (Is (.int .i64 0))), (0, (Is (.int .i64 (n : Nat))))] B4 a4 W4 := S4
  refine wp_seq ?_
  refine wp_stmt_seq [.val (Is (.int .i64 (n : Nat))),
      .val (Is (.int .i64 0))] [.inr 0] [.inl 0, .inl 1, .inr 0, .inr 1, .inr 2, .inr 3, .inr 4, .inr 5] follows S4 rfl (by kernel_rfl) ?_ ?_
  · refine ⟨⟨trivial, ?_⟩, ?_⟩
    · exact owe_move rfl (wants_all rfl) (Or.inl rfl) (opnd_slot 5 0 rfl (by kernel_rfl)) rfl
    · exact owe_move rfl (wants_all rfl) (Or.inl rfl) (opnd_const _) rfl
  intro B5 a5 W5 S5
  replace S5 : Sta w 28 [(1000000, (Gr g 36 2 (List.replicate (n * n) (Is (.agg #[.bool false, .slice none 0 0])))))] [(15, (Is (.int .i64 (n : Nat)))), (16, (Is (.int .i64 0))), (4, ((Tbl n n g) w.heap.size)), (9, (Is (.bool false))), (6, (Is (.bool false))), (2, (Is (.slice none 0 0))), (3, (Is (.int .i64 0))), (0, (Is (.int .i64 (n : Nat))))] B5 a5 W5 := S5
  refine wp_block ?_
  have hz0 : List.replicate (n * n) (Is (.agg #[.bool false, .slice none 0 0])) = gl w.heap.size n unitF (dU 0) := gl_none (fun a b => decide_eq_false (by omega))
  rw [hz0] at S5
  refine wp_loop_ghost (fun (i : Nat) a W => (i ≤ n) ∧ ∃ Bq, Sta w 28 [(1000000, (Gr g 36 2 (gl w.heap.size n unitF (dU i))))] [(15, (Is (.int .i64 (n : Nat)))), (16, (Is (.int .i64 (i : Nat)))), (4, ((Tbl n n g) w.heap.size))] Bq a W) (fun (i : Nat) => n - i) ?_ 0 ⟨Nat.zero_le _, B5, S5.sub [0] [0, 1, 2]⟩
  rintro i a6 W6 ⟨hcond, B6, S6⟩
  by_cases hlt : i < n
  · obtain ⟨off, hrw, hoff⟩ := rowV_at (g := g) (x := n) hlt
    have ho := hoff (by omega)
    have hget : ((List.range n).map (fun i => Is (rowV g 0 (n * n) (List.replicate n n) i)))[i]? = some (Is (.slice (some ⟨g, off, none⟩) n n)) := by rw [List.getElem?_map, List.getElem?_range hlt]; simp only [Option.map_some, hrw]
    have hset0 := gl_set (lo := w.heap.size) (F := unitF) (D := dU i) (D' := dU (i + 1)) (x := 1) hlt hlt (fun a b ha hb hne => decide_eq_decide.2 (by omega)) (decide_eq_true (by omega)) (if_pos rfl)
    have hl0 := at_lt hlt hlt
    refine wp_stmt_seq [.val (Is (.bool true))] [.inr 0] [.inl 0, .inr 0, .inr 1, .inr 2] follows S6 rfl (by kernel_rfl) ?_ ?_
    · refine ⟨trivial, ?_⟩
      · exact owe_bin rfl (wants_all rfl) rfl (opnd_slot 1 16 rfl (by kernel_rfl)) (opnd_slot 0 15 rfl (by kernel_rfl)) rfl (fun ρ w h1 h2 => by exact run_lss_int_t ρ _ _ _ w _ _ (by omega) h1 h2)
    intro B7 a7 W7 S7
    replace S7 : Sta w 28 [(1000000, (Gr g 36 2 (gl w.heap.size n unitF (dU i))))] [(17, (Is (.bool true))), (15, (Is (.int .i64 (n : Nat)))), (16, (Is (.int .i64 (i : Nat)))), (4, ((Tbl n n g) w.heap.size))] B7 a7 W7 := S7
    refine wp_seq ?_
    refine wp_cond_true (S7.bool 0 17 rfl) ?_
    refine wp_skip ?_
    refine thenN ?_
    refine wp_seq ?_
    refine wp_block ?_
    refine wp_stmt_seq [.val (Is (.int .i64 (i : Nat))),
      .val (Is (.int .i64 (i : Nat)))] [.inr 0] [.inl 1, .inr 0, .inr 1, .inr 2, .inr 3] follows S7 rfl (by kernel_rfl) ?_ ?_
    · refine ⟨⟨trivial, ?_⟩, ?_⟩
      · exact owe_move rfl (wants_all rfl) (Or.inl rfl) (opnd_slot 2 16 rfl (by kernel_rfl)) rfl
      · exact owe_move rfl (wants_all rfl) (Or.inr rfl) (opnd_op 0 18 (by kernel_rfl) rfl) rfl
    intro B8 a8 W8 S8
    replace S8 : Sta w 28 [(1000000, (Gr g 36 2 (gl w.heap.size n unitF (dU i))))] [(5, (Is (.int .i64 (i : Nat)))), (17, (Is (.bool true))), (15, (Is (.int .i64 (n : Nat)))), (16, (Is (.int .i64 (i : Nat)))), (4, ((Tbl n n g) w.heap.size))] B8 a8 W8 := S8
    refine wp_stmt [.val ((Tbl n n g) w.heap.size),
      .val (Is (.int .i64 (i : Nat))),
      .val (AtE 1 (Is (.slice (some ⟨g, off, none⟩) n n))),
      .val (Is (.slice (some ⟨g, off, none⟩) n n)),
      .val (Is (.int .i64 (i : Nat))),
      .val ((ZN (1)) w.heap.size),
      .val (Is (.pointer (some ⟨g, 2 * (i * n + i), none⟩))),
      .put (.inl 1000000) (Gr g 36 2 (gl w.heap.size n unitF (dU (i + 1))))] [.inr 0] [.inr 1, .inr 2, .inr 3, .inr 4] follows S8 rfl (by kernel_rfl) ?_ ?_
    · refine ⟨⟨⟨⟨⟨⟨⟨⟨trivial, ?_⟩, ?_⟩, ?_⟩, ?_⟩, ?_⟩, ?_⟩, ?_⟩, ?_⟩
      · exact owe_move rfl (wants_all rfl) (Or.inl rfl) (opnd_slot 4 4 rfl (by kernel_rfl)) rfl
      · exact owe_move rfl (wants_all rfl) (Or.inl rfl) (opnd_slot 0 5 rfl (by kernel_rfl)) rfl
      · exact owe_aindex rfl (wants_all rfl) rfl idx_rows ((opnd_op 0 19 (by kernel_rfl) rfl).imp tbl_ar) (opnd_op 1 20 (by kernel_rfl) rfl) hget rfl
      · exact owe_aload rfl (wants_all rfl) rfl ldr_row1 (by decide) (cel_is rfl) (opnd_op 2 21 (by kernel_rfl) rfl) rfl
      · exact owe_move rfl (wants_all rfl) (Or.inl rfl) (opnd_slot 0 5 rfl (by kernel_rfl)) rfl
      · exact owe_call1 rfl (wants_all rfl) rfl (opnd_const _) (fresh_zn _) rfl (fun args w => by go_simp) (g_zof (1) (by decide) (by decide))
      · exact owe_kindex rfl (wants_all rfl) rfl idx_ints (opnd_op 3 22 (by kernel_rfl) rfl) (opnd_op 4 23 (by kernel_rfl) rfl) hlt (by omega) rfl
      · exact owe_gstore rfl (wants_all rfl) rfl sto_int (by decide) (opnd_op 6 25 (by kernel_rfl) rfl) (k := 0) rfl (by kernel_rfl) (opnd_op 5 24 (by kernel_rfl) rfl) (cel_shp (by decide) shp_zn) (by rw [gl_len]; omega) (by rw [hset0]; rfl)
    intro B9 a9 W9 S9
    replace S9 : Sta w 28 [(1000000, (Gr g 36 2 (gl w.heap.size n unitF (dU (i + 1)))))] [(17, (Is (.bool true))), (15, (Is (.int .i64 (n : Nat)))), (16, (Is (.int .i64 (i : Nat)))), (4, ((Tbl n n g) w.heap.size))] B9 a9 W9 := S9
    refine inBlkN ?_
    refine thenN ?_
    refine wp_stmt [.val (Is (.int .i64 (i + 1 : Nat))),
      .val (Is (.int .i64 (i + 1 : Nat)))] [.inr 0] [.inl 1, .inr 0, .inr 1, .inr 3] follows S9 rfl (by kernel_rfl) ?_ ?_
    · refine ⟨⟨trivial, ?_⟩, ?_⟩
      · exact owe_bin rfl (wants_all rfl) rfl (opnd_slot 2 16 rfl (by kernel_rfl)) (opnd_const _) rfl (fun ρ w h1 h2 => by exact run_add_int ρ _ _ _ w _ _ _ ⟨by omega, by omega, by omega⟩ h1 h2)
      · exact owe_move rfl (wants_all rfl) (Or.inl rfl) (opnd_op 0 26 (by kernel_rfl) rfl) rfl
    intro B10 a10 W10 S10
    replace S10 : Sta w 28 [(1000000, (Gr g 36 2 (gl w.heap.size n unitF (dU (i + 1)))))] [(16, (Is (.int .i64 (i + 1 : Nat)))), (17, (Is (.bool true))), (15, (Is (.int .i64 (n : Nat)))), (4, ((Tbl n n g) w.heap.size))] B10 a10 W10 := S10
    refine thenN ?_
    exact ⟨i + 1, ⟨by omega, B10, S10.sub [0] [2, 0, 3]⟩, by omega⟩
  · have ei : i = n := by omega
    refine wp_stmt_seq [.val (Is (.bool false))] [.inr 0] [.inl 0, .inr 0, .inr 1, .inr 2] follows S6 rfl (by kernel_rfl) ?_ ?_
    · refine ⟨trivial, ?_⟩
      · exact owe_bin rfl (wants_all rfl) rfl (opnd_slot 1 16 rfl (by kernel_rfl)) (opnd_slot 0 15 rfl (by kernel_rfl)) rfl (fun ρ w h1 h2 => by exact run_lss_int_f ρ _ _ _ w _ _ (by omega) h1 h2)
    intro B7 a7 W7 S7
    replace S7 : Sta w 28 [(1000000, (Gr g 36 2 (gl w.heap.size n unitF (dU i))))] [(17, (Is (.bool false))), (15, (Is (.int .i64 (n : Nat)))), (16, (Is (.int .i64 (i : Nat)))), (4, ((Tbl n n g) w.heap.size))] B7 a7 W7 := S7
    refine wp_seq ?_
    refine wp_cond_false (S7.bool 0 17 rfl) ?_
    refine wp_exit ?_
    refine thenX ?_
    refine thenX ?_
    refine inBlkE ?_
    refine thenN ?_
    obtain ⟨B8, S8⟩ : ∃ Bq, Sta w 28 [] [(4, ((MN n (unitZ n)) w.heap.size)), (17, (Is (.bool false))), (15, (Is (.int .i64 (n : Nat)))), (16, (Is (.int .i64 (i : Nat)))), (4, ((Tbl n n g) w.heap.size))] Bq a7 W7 := ⟨_, S7.thaw 0 3 rfl rfl (by simp) (tbl_gl (F := unitF) (D := dU i) hxm (fun a b ha hb hd => if_neg (fun e => absurd hd (by rw [show dU i a b = true from decide_eq_true (by omega)]; decide))))⟩
    obtain ⟨a8, W8, e1, e2⟩ : ∃ a W, a7 = a ∧ W7 = W := ⟨_, _, rfl, rfl⟩
    rw [e1, e2] at S8 ⊢
    clear e1 e2
    refine wp_stmt_seq [.val ((MN n (unitZ n)) w.heap.size),
      .val ((MN n (unitZ n)) w.heap.size),
      .val (Is (.int .i64 0))] [] [.inl 1, .inl 2, .inr 0, .inr 1, .inr 2, .inr 3, .inr 4] follows S8 rfl (by kernel_rfl) ?_ ?_
    · refine ⟨⟨⟨trivial, ?_⟩, ?_⟩, ?_⟩
      · exact owe_move rfl (wants_all rfl) (Or.inl rfl) (opnd_slot 0 4 rfl (by kernel_rfl)) rfl
      · exact owe_move rfl (wants_all rfl) (Or.inr rfl) (opnd_op 0 27 (by kernel_rfl) rfl) rfl
      · exact owe_move rfl (wants_all rfl) (Or.inr rfl) (opnd_const _) rfl
    intro B9 a9 W9 S9
    replace S9 : Sta w 28 [] [(2, ((MN n (unitZ n)) w.heap.size)), (3, (Is (.int .i64 0))), (4, ((MN n (unitZ n)) w.heap.size)), (17, (Is (.bool false))), (15, (Is (.int .i64 (n : Nat)))), (16, (Is (.int .i64 (i : Nat)))), (4, ((Tbl n n g) w.heap.size))] B9 a9 W9 := S9
    refine wp_ret ?_
    exact end_two S9 rfl (res_tmp S9 0 2 rfl) (res_tmp S9 1 3 rfl)

set_option maxHeartbeats 400000 in
theorem unit_n (w : World) (z : Int) (hz : z < 0) :
    Calls Tryd.prog 29 #[.int .i64 z] w (Gives (TWO (IS (.slice none 0 0)) (IS (.int .i64 1))) w) := by
  refine calls_sta (sl := [(0, (Is (.int .i64 z)))]) Tryd.func29 rfl Tryd.ntmps29 (by simp) (args_cons rfl (is_has _) args_nil) ?_
  intro a0 S0
  refine wp_stmt_seq [.val (Is (.slice none 0 0)),
      .val (Is (.int .i64 0))] [] [.inl 0, .inl 1, .inr 0] follows S0 rfl (by kernel_rfl) ?_ ?_
  · refine ⟨⟨trivial, ?_⟩, ?_⟩
    · exact owe_move rfl (wants_all rfl) (Or.inr rfl) (opnd_const _) rfl
    · exact owe_move rfl (wants_all rfl) (Or.inr rfl) (opnd_const _) rfl
  intro B1 a1 W1 S1
  replace S1 : Sta w 28 [] [(2, (Is (.slice none 0 0))), (3, (Is (.int .i64 0))), (0, (Is (.int .i64 z)))] B1 a1 W1 := S1
  refine wp_seq ?_
  refine wp_block ?_
  refine wp_stmt_seq [.val (Is (.int .i64 z)),
      .val (Is (.bool true)),
      .val (Is (.bool true))] [] [.inl 2, .inr 0, .inr 1, .inr 2] follows S1 rfl (by kernel_rfl) ?_ ?_
  · refine ⟨⟨⟨trivial, ?_⟩, ?_⟩, ?_⟩
    · exact owe_move rfl (wants_all rfl) (Or.inl rfl) (opnd_slot 2 0 rfl (by kernel_rfl)) rfl
    · exact owe_bin rfl (wants_all rfl) rfl (opnd_op 0 7 (by kernel_rfl) rfl) (opnd_const _) rfl (fun ρ w h1 h2 => by exact run_lss_int_t ρ _ _ _ w _ _ (by omega) h1 h2)
    · exact owe_move rfl (wants_all rfl) (Or.inr rfl) (opnd_op 1 8 (by kernel_rfl) rfl) rfl
  intro B2 a2 W2 S2
  replace S2 : Sta w 28 [] [(6, (Is (.bool true))), (2, (Is (.slice none 0 0))), (3, (Is (.int .i64 0))), (0, (Is (.int .i64 z)))] B2 a2 W2 := S2
  refine wp_cond_true (S2.bool 0 6 rfl) ?_
  refine wp_stmt_seq [.val (Is (.slice none 0 0)),
      .val (Is (.int .i64 1))] [] [.inl 0, .inl 1, .inr 0, .inr 3] follows S2 rfl (by kernel_rfl) ?_ ?_
  · refine ⟨⟨trivial, ?_⟩, ?_⟩
    · exact owe_move rfl (wants_all rfl) (Or.inr rfl) (opnd_const _) rfl
    · exact owe_move rfl (wants_all rfl) (Or.inr rfl) (opnd_const _) rfl
  intro B3 a3 W3 S3
  replace S3 : Sta w 28 [] [(2, (Is (.slice none 0 0))), (3, (Is (.int .i64 1))), (6, (Is (.bool true))), (0, (Is (.int .i64 z)))] B3 a3 W3 := S3
  refine wp_ret ?_
  refine inBlkR ?_
  refine thenR ?_
  exact end_two S3 rfl (res_tmp S3 0 2 rfl) (res_tmp S3 1 3 rfl)

set_option maxHeartbeats 400000 in
theorem unit_l (w : World) (z : Int) (hz : 64 < z) :
    Calls Tryd.prog 29 #[.int .i64 z] w (Gives (TWO (IS (.slice none 0 0)) (IS (.int .i64 2))) w) := by
  refine calls_sta (sl := [(0, (Is (.int .i64 z)))]) Tryd.func29 rfl Tryd.ntmps29 (by simp) (args_cons rfl (is_has _) args_nil) ?_
  intro a0 S0
  refine wp_stmt_seq [.val (Is (.slice none 0 0)),
      .val (Is (.int .i64 0))] [] [.inl 0, .inl 1, .inr 0] follows S0 rfl (by kernel_rfl) ?_ ?_
  · refine ⟨⟨trivial, ?_⟩, ?_⟩
    · exact owe_move rfl (wants_all rfl) (Or.inr rfl) (opnd_const _) rfl
    · exact owe_move rfl (wants_all rfl) (Or.inr rfl) (opnd_const _) rfl
  intro B1 a1 W1 S1
  replace S1 : Sta w 28 [] [(2, (Is (.slice none 0 0))), (3, (Is (.int .i64 0))), (0, (Is (.int .i64 z)))] B1 a1 W1 := S1
  refine wp_seq ?_
  refine wp_block ?_
  refine wp_stmt_seq [.val (Is (.int .i64 z)),
      .val (Is (.bool false)),
      .val (Is (.bool false))] [] [.inl 2, .inr 0, .inr 1, .inr 2] follows S1 rfl (by kernel_rfl) ?_ ?_
  · refine ⟨⟨⟨trivial, ?_⟩, ?_⟩, ?_⟩
    · exact owe_move rfl (wants_all rfl) (Or.inl rfl) (opnd_slot 2 0 rfl (by kernel_rfl)) rfl
    · exact owe_bin rfl (wants_all rfl) rfl (opnd_op 0 7 (by kernel_rfl) rfl) (opnd_const _) rfl (fun ρ w h1 h2 => by exact run_lss_int_f ρ _ _ _ w _ _ (by omega) h1 h2)
    · exact owe_move rfl (wants_all rfl) (Or.inr rfl) (opnd_op 1 8 (by kernel_rfl) rfl) rfl
  intro B2 a2 W2 S2
  replace S2 : Sta w 28 [] [(6, (Is (.bool false))), (2, (Is (.slice none 0 0))), (3, (Is (.int .i64 0))), (0, (Is (.int .i64 z)))] B2 a2 W2 := S2
  refine wp_cond_false (S2.bool 0 6 rfl) ?_
  refine wp_stmt_seq [.val (Is (.int .i64 z)),
      .val (Is (.bool true)),
      .val (Is (.bool true))] [] [.inl 2, .inr 0, .inr 1, .inr 2, .inr 3] follows S2 rfl (by kernel_rfl) ?_ ?_
  · refine ⟨⟨⟨trivial, ?_⟩, ?_⟩, ?_⟩
    · exact owe_move rfl (wants_all rfl) (Or.inl rfl) (opnd_slot 3 0 rfl (by kernel_rfl)) rfl
    · exact owe_bin rfl (wants_all rfl) rfl (opnd_op 0 10 (by kernel_rfl) rfl) (opnd_const _) rfl (fun ρ w h1 h2 => by exact run_gtr_int_t ρ _ _ _ w _ _ (by omega) h1 h2)
    · exact owe_move rfl (wants_all rfl) (Or.inr rfl) (opnd_op 1 11 (by kernel_rfl) rfl) rfl
  intro B3 a3 W3 S3
  replace S3 : Sta w 28 [] [(9, (Is (.bool true))), (6, (Is (.bool false))), (2, (Is (.slice none 0 0))), (3, (Is (.int .i64 0))), (0, (Is (.int .i64 z)))] B3 a3 W3 := S3
  refine wp_cond_true (S3.bool 0 9 rfl) ?_
  refine wp_stmt_seq [.val (Is (.slice none 0 0)),
      .val (Is (.int .i64 2))] [] [.inl 0, .inl 1, .inr 0, .inr 1, .inr 4] follows S3 rfl (by kernel_rfl) ?_ ?_
  · refine ⟨⟨trivial, ?_⟩, ?_⟩
    · exact owe_move rfl (wants_all rfl) (Or.inr rfl) (opnd_const _) rfl
    · exact owe_move rfl (wants_all rfl) (Or.inr rfl) (opnd_const _) rfl
  intro B4 a4 W4 S4
  replace S4 : Sta w 28 [] [(2, (Is (.slice none 0 0))), (3, (Is (.int .i64 2))), (9, (Is (.bool true))), (6, (Is (.bool false))), (0, (Is (.int .i64 z)))] B4 a4 W4 := S4
  refine wp_ret ?_
  refine inBlkR ?_
  refine thenR ?_
  exact end_two S4 rfl (res_tmp S4 0 2 rfl) (res_tmp S4 1 3 rfl)

def unitN (z : Int) : Nat := if 0 ≤ z ∧ z ≤ 64 then z.toNat else 0
def unitE (z : Int) : List (List Int) := if 0 ≤ z ∧ z ≤ 64 then unitZ z.toNat else []
def unitR (z : Int) : Int := if z < 0 then 1 else if 64 < z then 2 else 0

theorem h_unit (w : World) (z : Int) : Calls Tryd.prog 29 #[.int .i64 z] w (Gives (TWO (MN (unitN z) (unitE z)) (IS (.int .i64 (unitR z)))) w) := by
  by_cases h1 : z < 0
  · simp only [unitN, unitE, unitR, show ¬ (0 ≤ z ∧ z ≤ 64) from by omega, h1, if_true, if_false]
    exact give_two (unit_n w z h1) nil_mn' (fun _ _ _ h => h)
  · by_cases h2 : 64 < z
    · simp only [unitN, unitE, unitR, show ¬ (0 ≤ z ∧ z ≤ 64) from by omega, h1, h2, if_true, if_false]
      exact give_two (unit_l w z h2) nil_mn' (fun _ _ _ h => h)
    · simp only [unitN, unitE, unitR, show (0 ≤ z ∧ z ≤ 64) from by omega, h1, h2, if_true, if_false, and_self]
      obtain ⟨n, rfl⟩ : ∃ n : Nat, z = (n : Int) := ⟨z.toNat, by omega⟩
      rw [Int.toNat_natCast]
      exact unit_y w n (by omega)

end Go.Proofs.YtdhjgekbocnnkaaDoor
