import Derived.Test.YtiehipnaklkhjaaMProd
import Derived.Test.YtiehipnaklkhjaaVec
import Derived.Lib.AppendZerosOnto
import Derived.Laws.OwnMore
import Derived.Test.YtiehipnaklkhjaaMOwn
import Derived.Test.YtiehipnaklkhjaaBits
import Derived.Test.YtiehipnaklkhjaaMEach
import Derived.Test.YtiehipnaklkhjaaCut
import Derived.Test.YtiehipnaklkhjaaSetN
import Derived.Test.YtiehipnaklkhjaaMVec
import Derived.Test.YtiehipnaklkhjaaMConts
/-
  Unit: mat's and the document's.
-/
namespace Go.Proofs.Ytiehipnaklkhjaa
open Go Go.RowKit Nt
set_option linter.unusedSimpArgs false
set_option linter.unusedVariables false
set_option maxRecDepth 20000


def unitF : Nat → Nat → Int := fun i j => if i = j then 1 else 0
def unitZ (n : Nat) : List (List Int) := (List.range n).map (fun i => (List.range n).map (fun j => unitF i j))
def dU (i : Nat) : Nat → Nat → Bool := fun a b => decide (a = b ∧ a < i)
/-- What was never written is 0. -/
theorem tbl_gl {n g lo : Nat} {F : Nat → Nat → Int} {D : Nat → Nat → Bool} (hxm : n ≤ maxLen) (hD : ∀ a b, a < n → b < n → D a b = false → F a b = 0) : ∀ v w (C : Nat → List Value), Tbl n n g lo v w → (∀ b, b = g → lo ≤ b ∧ w.heap[b]? = some (.cells (C b).toArray 39 (0, 0))) → CE 2 (gl lo n F D) (C g) w → MN n (grid n n F) lo v w := fun v w C ht hg hc =>
  tbl_mn (F := F) (fl := flat n n F) hxm (fun i j hi hj => flat_at hi hj) v w C ht hg (ce_imp (by simp [gl]) (fun p φ φ' h1 h2 v w hφ => by
    obtain ⟨q, hq, rfl⟩ := map_get h1
    obtain ⟨ψ, hψ, rfl⟩ := map_get h2
    obtain ⟨z, hz, rfl⟩ := map_get hψ
    obtain ⟨q', hq', rfl⟩ := map_get hz
    rw [hq] at hq'
    cases hq'
    have hlt : q < n * n := by
      have := List.mem_of_getElem? hq
      simpa using this
    have hn : 0 < n := by
      rcases Nat.eq_zero_or_pos n with e | e
      · rw [e] at hlt
        omega
      · exact e
    by_cases hd : D (q / n) (q % n) = true
    · rw [if_pos hd] at hφ
      exact hφ
    · rw [if_neg hd] at hφ
      rw [hD _ _ (Nat.div_lt_of_lt_mul hlt) (Nat.mod_lt _ hn) (by simpa using hd)]
      exact zero_zn' lo v w hφ) _ _ hc)

set_option maxHeartbeats 2000000 in
theorem unit_y (w : World) (n : Nat) (hn : n ≤ 64) :
    Calls Try.prog 13 #[.int .i64 (n : Nat)] w (Gives (TWO (MN n (unitZ n)) (IS (.int .i64 0))) w) := by
  have hn1 : n ≤ 1048576 := by omega
  have hb : 32 * (n * n) ≤ 281474976710656 := by have : n * n ≤ 1048576 * 1048576 := Nat.mul_le_mul hn1 hn1; omega
  have hxm : n ≤ maxLen := by unfold maxLen; omega
  refine calls_sta (sl := [(0, (Is (.int .i64 (n : Nat))))]) Try.func13 rfl Try.ntmps13 (by simp) (args_cons rfl (is_has _) args_nil) ?_
  intro a0 S0
  refine wp_stmt_seq [.val (Is (.slice none 0 0)),
      .val (Is (.int .i64 0))] [] [.inl 0, .inl 1, .inr 0] follows S0 rfl (by kernel_rfl) ?_ ?_
  · refine ⟨⟨trivial, ?_⟩, ?_⟩
    · exact owe_move rfl (wants_all rfl) (Or.inr rfl) (opnd_const _) rfl
    · exact owe_move rfl (wants_all rfl) (Or.inr rfl) (opnd_const _) rfl
  intro B1 a1 W1 S1
  replace S1 : Sta w 28 [] [(2, (Is (.slice none 0 0))), (3, (Is (.int .i64 0))), (0, (Is (.int .i64 (n : Nat))))] B1 a1 W1 := S1
  refine wp_seq ?_
  refine wp_block ?_
  refine wp_stmt_seq [.val (Is (.int .i64 (n : Nat))),
      .val (Is (.bool false)),
      .val (Is (.bool false))] [] [.inl 2, .inr 0, .inr 1, .inr 2] follows S1 rfl (by kernel_rfl) ?_ ?_
  · refine ⟨⟨⟨trivial, ?_⟩, ?_⟩, ?_⟩
    · exact owe_move rfl (wants_all rfl) (Or.inl rfl) (opnd_slot 2 0 rfl (by kernel_rfl)) rfl
    · exact owe_bin rfl (wants_all rfl) rfl (opnd_op 0 7 (by kernel_rfl) rfl) (opnd_const _) rfl (fun ρ w h1 h2 => by exact run_lss_int_f ρ _ _ _ w _ _ (by omega) h1 h2)
    · exact owe_move rfl (wants_all rfl) (Or.inr rfl) (opnd_op 1 8 (by kernel_rfl) rfl) rfl
  intro B2 a2 W2 S2
  replace S2 : Sta w 28 [] [(6, (Is (.bool false))), (2, (Is (.slice none 0 0))), (3, (Is (.int .i64 0))), (0, (Is (.int .i64 (n : Nat))))] B2 a2 W2 := S2
  refine wp_cond_false (S2.bool 0 6 rfl) ?_
  refine wp_stmt_seq [.val (Is (.int .i64 (n : Nat))),
      .val (Is (.bool false)),
      .val (Is (.bool false))] [] [.inl 2, .inr 0, .inr 1, .inr 2, .inr 3] follows S2 rfl (by kernel_rfl) ?_ ?_
  · refine ⟨⟨⟨trivial, ?_⟩, ?_⟩, ?_⟩
    · exact owe_move rfl (wants_all rfl) (Or.inl rfl) (opnd_slot 3 0 rfl (by kernel_rfl)) rfl
    · exact owe_bin rfl (wants_all rfl) rfl (opnd_op 0 10 (by kernel_rfl) rfl) (opnd_const _) rfl (fun ρ w h1 h2 => by exact run_gtr_int_f ρ _ _ _ w _ _ (by omega) h1 h2)
    · exact owe_move rfl (wants_all rfl) (Or.inr rfl) (opnd_op 1 11 (by kernel_rfl) rfl) rfl
  intro B3 a3 W3 S3
  replace S3 : Sta w 28 [] [(9, (Is (.bool false))), (6, (Is (.bool false))), (2, (Is (.slice none 0 0))), (3, (Is (.int .i64 0))), (0, (Is (.int .i64 (n : Nat))))] B3 a3 W3 := S3
  refine wp_cond_false (S3.bool 0 9 rfl) ?_
  refine wp_skip ?_
  refine inBlkN ?_
  refine thenN ?_
  refine wp_seq (wp_blank (h := n) (x := n) (t := 1000000) (ta := 12) (tb := 13) (tc := 14) (td := 4) (tx := 0) (ty := 0) rfl S3 (fun w => blank_w w (n) (n) (hn1) (hb)) rfl ⟨rfl, rfl, rfl⟩ ⟨rfl, rfl, rfl⟩ ⟨rfl, rfl, rfl⟩ ⟨rfl, rfl, rfl⟩ (S3.slot 4 0 rfl) (S3.slot 4 0 rfl) (by decide) [(9, (Is (.bool false))), (6, (Is (.bool false))), (2, (Is (.slice none 0 0))), (3, (Is (.int .i64 0))), (0, (Is (.int .i64 (n : Nat))))] (by simp) (by simp) ?_)
  intro g B4 a4 W4 S4
  refine thenN ?_
  replace S4 : Sta w 28 [(1000000, (Gr g 39 2 (List.replicate (n * n) (Is (.agg #[.bool false, .slice none 0 0])))))] [(4, ((Tbl n n g) w.heap.size)), (9, (Is (.bool false))), (6, (Is (.bool false))), (2, (Is (.slice none 0 0))), (3, (Is (.int .i64 0))), (0, (Is (.int .i64 (n : Nat))))] B4 a4 W4 := S4
  refine wp_seq ?_
  refine wp_stmt_seq [.val (Is (.int .i64 (n : Nat))),
      .val (Is (.int .i64 0))] [.inr 0] [.inl 0, .inl 1, .inr 0, .inr 1, .inr 2, .inr 3, .inr 4, .inr 5] follows S4 rfl (by kernel_rfl) ?_ ?_
  · refine ⟨⟨trivial, ?_⟩, ?_⟩
    · exact owe_move rfl (wants_all rfl) (Or.inl rfl) (opnd_slot 5 0 rfl (by kernel_rfl)) rfl
    · exact owe_move rfl (wants_all rfl) (Or.inl rfl) (opnd_const _) rfl
  intro B5 a5 W5 S5
  replace S5 : Sta w 28 [(1000000, (Gr g 39 2 (List.replicate (n * n) (Is (.agg #[.bool false, .slice none 0 0])))))] [(15, (Is (.int .i64 (n : Nat)))), (16, (Is (.int .i64 0))), (4, ((Tbl n n g) w.heap.size)), (9, (Is (.bool false))), (6, (Is (.bool false))), (2, (Is (.slice none 0 0))), (3, (Is (.int .i64 0))), (0, (Is (.int .i64 (n : Nat))))] B5 a5 W5 := S5
  refine wp_block ?_
  have hz0 : List.replicate (n * n) (Is (.agg #[.bool false, .slice none 0 0])) = gl w.heap.size n unitF (dU 0) := gl_none (fun a b => decide_eq_false (by omega))
  rw [hz0] at S5
  refine wp_loop_ghost (fun (i : Nat) a W => (i ≤ n) ∧ ∃ Bq, Sta w 28 [(1000000, (Gr g 39 2 (gl w.heap.size n unitF (dU i))))] [(15, (Is (.int .i64 (n : Nat)))), (16, (Is (.int .i64 (i : Nat)))), (4, ((Tbl n n g) w.heap.size))] Bq a W) (fun (i : Nat) => n - i) ?_ 0 ⟨Nat.zero_le _, B5, S5.sub [0] [0, 1, 2]⟩
  rintro i a6 W6 ⟨hcond, B6, S6⟩
  by_cases hlt : i < n
  · obtain ⟨off, hrw, hoff⟩ := rowV_at (g := g) (x := n) hlt
    have ho := hoff (by omega)
    have hget : ((List.range n).map (fun i => Is (rowV g 0 (n * n) (List.replicate n n) i)))[i]? = some (Is (.slice (some ⟨g, off, none⟩) n n)) := by rw [List.getElem?_map, List.getElem?_range hlt]; simp only [Option.map_some, hrw]
    have hset0 := gl_set (lo := w.heap.size) (F := unitF) (D := dU i) (D' := dU (i + 1)) (x := 1) hlt hlt (fun a b ha hb hne => decide_eq_decide.2 (by omega)) (decide_eq_true (by omega)) (if_pos rfl)
    have hl0 := at_lt hlt hlt
    refine wp_stmt_seq [.val (Is (.bool true))] [.inr 0] [.inl 0, .inr 0, .inr 1, .inr 2] follows S6 rfl (by kernel_rfl) ?_ ?_
    · refine ⟨trivial, ?_⟩
      · exact owe_bin rfl (wants_all rfl) rfl (opnd_slot 1 16 rfl (by kernel_rfl)) (opnd_slot 0 15 rfl (by kernel_rfl)) rfl (fun ρ w h1 h2 => by exact run_lss_int_t ρ _ _ _ w _ _ (by omega) h1 h2)
    intro B7 a7 W7 S7
    replace S7 : Sta w 28 [(1000000, (Gr g 39 2 (gl w.heap.size n unitF (dU i))))] [(17, (Is (.bool true))), (15, (Is (.int .i64 (n : Nat)))), (16, (Is (.int .i64 (i : Nat)))), (4, ((Tbl n n g) w.heap.size))] B7 a7 W7 := S7
    refine wp_seq ?_
    refine wp_cond_true (S7.bool 0 17 rfl) ?_
    refine wp_skip ?_
    refine thenN ?_
    refine wp_seq ?_
    refine wp_block ?_
    refine wp_stmt_seq [.val (Is (.int .i64 (i : Nat))),
      .val (Is (.int .i64 (i : Nat)))] [.inr 0] [.inl 1, .inr 0, .inr 1, .inr 2, .inr 3] follows S7 rfl (by kernel_rfl) ?_ ?_
    · refine ⟨⟨trivial, ?_⟩, ?_⟩
      · exact owe_move rfl (wants_all rfl) (Or.inl rfl) (opnd_slot 2 16 rfl (by kernel_rfl)) rfl
      · exact owe_move rfl (wants_all rfl) (Or.inr rfl) (opnd_op 0 18 (by kernel_rfl) rfl) rfl
    intro B8 a8 W8 S8
    replace S8 : Sta w 28 [(1000000, (Gr g 39 2 (gl w.heap.size n unitF (dU i))))] [(5, (Is (.int .i64 (i : Nat)))), (17, (Is (.bool true))), (15, (Is (.int .i64 (n : Nat)))), (16, (Is (.int .i64 (i : Nat)))), (4, ((Tbl n n g) w.heap.size))] B8 a8 W8 := S8
    refine wp_stmt [.val ((Tbl n n g) w.heap.size),
      .val (Is (.int .i64 (i : Nat))),
      .val (AtE 1 (Is (.slice (some ⟨g, off, none⟩) n n))),
      .val (Is (.slice (some ⟨g, off, none⟩) n n)),
      .val (Is (.int .i64 (i : Nat))),
      .val ((ZN (1)) w.heap.size),
      .val (Is (.pointer (some ⟨g, 2 * (i * n + i), none⟩))),
      .put (.inl 1000000) (Gr g 39 2 (gl w.heap.size n unitF (dU (i + 1))))] [.inr 0] [.inr 1, .inr 2, .inr 3, .inr 4] follows S8 rfl (by kernel_rfl) ?_ ?_
    · refine ⟨⟨⟨⟨⟨⟨⟨⟨trivial, ?_⟩, ?_⟩, ?_⟩, ?_⟩, ?_⟩, ?_⟩, ?_⟩, ?_⟩
      · exact owe_move rfl (wants_all rfl) (Or.inl rfl) (opnd_slot 4 4 rfl (by kernel_rfl)) rfl
      · exact owe_move rfl (wants_all rfl) (Or.inl rfl) (opnd_slot 0 5 rfl (by kernel_rfl)) rfl
      · exact owe_aindex rfl (wants_all rfl) rfl idx_rows ((opnd_op 0 19 (by kernel_rfl) rfl).imp tbl_ar) (opnd_op 1 20 (by kernel_rfl) rfl) hget rfl
      · exact owe_aload rfl (wants_all rfl) rfl ldr_row1 (by decide) (cel_is rfl) (opnd_op 2 21 (by kernel_rfl) rfl) rfl
      · exact owe_move rfl (wants_all rfl) (Or.inl rfl) (opnd_slot 0 5 rfl (by kernel_rfl)) rfl
      · exact owe_call1 rfl (wants_all rfl) rfl (opnd_const _) (fresh_zn _) rfl (fun args w => by go_simp) (g_zof (1) (by decide) (by decide))
      · exact owe_kindex rfl (wants_all rfl) rfl idx_ints (opnd_op 3 22 (by kernel_rfl) rfl) (opnd_op 4 23 (by kernel_rfl) rfl) hlt (by omega) rfl
      · exact owe_gstore rfl (wants_all rfl) rfl sto_int (by decide) (opnd_op 6 25 (by kernel_rfl) rfl) (k := 0) rfl (by kernel_rfl) (opnd_op 5 24 (by kernel_rfl) rfl) (cel_shp (by decide) shp_zn) (by rw [gl_len]; omega) (by rw [hset0]; rfl)
    intro B9 a9 W9 S9
    replace S9 : Sta w 28 [(1000000, (Gr g 39 2 (gl w.heap.size n unitF (dU (i + 1)))))] [(17, (Is (.bool true))), (15, (Is (.int .i64 (n : Nat)))), (16, (Is (.int .i64 (i : Nat)))), (4, ((Tbl n n g) w.heap.size))] B9 a9 W9 := S9
    refine inBlkN ?_
    refine thenN ?_
    refine wp_stmt [.val (Is (.int .i64 (i + 1 : Nat))),
      .val (Is (.int .i64 (i + 1 : Nat)))] [.inr 0] [.inl 1, .inr 0, .inr 1, .inr 3] follows S9 rfl (by kernel_rfl) ?_ ?_
    · refine ⟨⟨trivial, ?_⟩, ?_⟩
      · exact owe_bin rfl (wants_all rfl) rfl (opnd_slot 2 16 rfl (by kernel_rfl)) (opnd_const _) rfl (fun ρ w h1 h2 => by exact run_add_int ρ _ _ _ w _ _ _ ⟨by omega, by omega, by omega⟩ h1 h2)
      · exact owe_move rfl (wants_all rfl) (Or.inl rfl) (opnd_op 0 26 (by kernel_rfl) rfl) rfl
    intro B10 a10 W10 S10
    replace S10 : Sta w 28 [(1000000, (Gr g 39 2 (gl w.heap.size n unitF (dU (i + 1)))))] [(16, (Is (.int .i64 (i + 1 : Nat)))), (17, (Is (.bool true))), (15, (Is (.int .i64 (n : Nat)))), (4, ((Tbl n n g) w.heap.size))] B10 a10 W10 := S10
    refine thenN ?_
    exact ⟨i + 1, ⟨by omega, B10, S10.sub [0] [2, 0, 3]⟩, by omega⟩
  · have ei : i = n := by omega
    refine wp_stmt_seq [.val (Is (.bool false))] [.inr 0] [.inl 0, .inr 0, .inr 1, .inr 2] follows S6 rfl (by kernel_rfl) ?_ ?_
    · refine ⟨trivial, ?_⟩
      · exact owe_bin rfl (wants_all rfl) rfl (opnd_slot 1 16 rfl (by kernel_rfl)) (opnd_slot 0 15 rfl (by kernel_rfl)) rfl (fun ρ w h1 h2 => by exact run_lss_int_f ρ _ _ _ w _ _ (by omega) h1 h2)
    intro B7 a7 W7 S7
    replace S7 : Sta w 28 [(1000000, (Gr g 39 2 (gl w.heap.size n unitF (dU i))))] [(17, (Is (.bool false))), (15, (Is (.int .i64 (n : Nat)))), (16, (Is (.int .i64 (i : Nat)))), (4, ((Tbl n n g) w.heap.size))] B7 a7 W7 := S7
    refine wp_seq ?_
    refine wp_cond_false (S7.bool 0 17 rfl) ?_
    refine wp_exit ?_
    refine thenX ?_
    refine thenX ?_
    refine inBlkE ?_
    refine thenN ?_
    obtain ⟨B8, S8⟩ : ∃ Bq, Sta w 28 [] [(4, ((MN n (unitZ n)) w.heap.size)), (17, (Is (.bool false))), (15, (Is (.int .i64 (n : Nat)))), (16, (Is (.int .i64 (i : Nat)))), (4, ((Tbl n n g) w.heap.size))] Bq a7 W7 := ⟨_, S7.thaw 0 3 rfl rfl (by simp) (tbl_gl (F := unitF) (D := dU i) hxm (fun a b ha hb hd => if_neg (fun e => absurd hd (by rw [show dU i a b = true from decide_eq_true (by omega)]; decide))))⟩
    obtain ⟨a8, W8, e1, e2⟩ : ∃ a W, a7 = a ∧ W7 = W := ⟨_, _, rfl, rfl⟩
    rw [e1, e2] at S8 ⊢
    clear e1 e2
    refine wp_stmt_seq [.val ((MN n (unitZ n)) w.heap.size),
      .val ((MN n (unitZ n)) w.heap.size),
      .val (Is (.int .i64 0))] [] [.inl 1, .inl 2, .inr 0, .inr 1, .inr 2, .inr 3, .inr 4] follows S8 rfl (by kernel_rfl) ?_ ?_
    · refine ⟨⟨⟨trivial, ?_⟩, ?_⟩, ?_⟩
      · exact owe_move rfl (wants_all rfl) (Or.inl rfl) (opnd_slot 0 4 rfl (by kernel_rfl)) rfl
      · exact owe_move rfl (wants_all rfl) (Or.inr rfl) (opnd_op 0 27 (by kernel_rfl) rfl) rfl
      · exact owe_move rfl (wants_all rfl) (Or.inr rfl) (opnd_const _) rfl
    intro B9 a9 W9 S9
    replace S9 : Sta w 28 [] [(2, ((MN n (unitZ n)) w.heap.size)), (3, (Is (.int .i64 0))), (4, ((MN n (unitZ n)) w.heap.size)), (17, (Is (.bool false))), (15, (Is (.int .i64 (n : Nat)))), (16, (Is (.int .i64 (i : Nat)))), (4, ((Tbl n n g) w.heap.size))] B9 a9 W9 := S9
    refine wp_ret ?_
    exact end_two S9 rfl (res_tmp S9 0 2 rfl) (res_tmp S9 1 3 rfl)

set_option maxHeartbeats 400000 in
theorem unit_n (w : World) (z : Int) (hz : z < 0) :
    Calls Try.prog 13 #[.int .i64 z] w (Gives (TWO (IS (.slice none 0 0)) (IS (.int .i64 1))) w) := by
  refine calls_sta (sl := [(0, (Is (.int .i64 z)))]) Try.func13 rfl Try.ntmps13 (by simp) (args_cons rfl (is_has _) args_nil) ?_
  intro a0 S0
  refine wp_stmt_seq [.val (Is (.slice none 0 0)),
      .val (Is (.int .i64 0))] [] [.inl 0, .inl 1, .inr 0] follows S0 rfl (by kernel_rfl) ?_ ?_
  · refine ⟨⟨trivial, ?_⟩, ?_⟩
    · exact owe_move rfl (wants_all rfl) (Or.inr rfl) (opnd_const _) rfl
    · exact owe_move rfl (wants_all rfl) (Or.inr rfl) (opnd_const _) rfl
  intro B1 a1 W1 S1
  replace S1 : Sta w 28 [] [(2, (Is (.slice none 0 0))), (3, (Is (.int .i64 0))), (0, (Is (.int .i64 z)))] B1 a1 W1 := S1
  refine wp_seq ?_
  refine wp_block ?_
  refine wp_stmt_seq [.val (Is (.int .i64 z)),
      .val (Is (.bool true)),
      .val (Is (.bool true))] [] [.inl 2, .inr 0, .inr 1, .inr 2] follows S1 rfl (by kernel_rfl) ?_ ?_
  · refine ⟨⟨⟨trivial, ?_⟩, ?_⟩, ?_⟩
    · exact owe_move rfl (wants_all rfl) (Or.inl rfl) (opnd_slot 2 0 rfl (by kernel_rfl)) rfl
    · exact owe_bin rfl (wants_all rfl) rfl (opnd_op 0 7 (by kernel_rfl) rfl) (opnd_const _) rfl (fun ρ w h1 h2 => by exact run_lss_int_t ρ _ _ _ w _ _ (by omega) h1 h2)
    · exact owe_move rfl (wants_all rfl) (Or.inr rfl) (opnd_op 1 8 (by kernel_rfl) rfl) rfl
  intro B2 a2 W2 S2
  replace S2 : Sta w 28 [] [(6, (Is (.bool true))), (2, (Is (.slice none 0 0))), (3, (Is (.int .i64 0))), (0, (Is (.int .i64 z)))] B2 a2 W2 := S2
  refine wp_cond_true (S2.bool 0 6 rfl) ?_
  refine wp_stmt_seq [.val (Is (.slice none 0 0)),
      .val (Is (.int .i64 1))] [] [.inl 0, .inl 1, .inr 0, .inr 3] follows S2 rfl (by kernel_rfl) ?_ ?_
  · refine ⟨⟨trivial, ?_⟩, ?_⟩
    · exact owe_move rfl (wants_all rfl) (Or.inr rfl) (opnd_const _) rfl
    · exact owe_move rfl (wants_all rfl) (Or.inr rfl) (opnd_const _) rfl
  intro B3 a3 W3 S3
  replace S3 : Sta w 28 [] [(2, (Is (.slice none 0 0))), (3, (Is (.int .i64 1))), (6, (Is (.bool true))), (0, (Is (.int .i64 z)))] B3 a3 W3 := S3
  refine wp_ret ?_
  refine inBlkR ?_
  refine thenR ?_
  exact end_two S3 rfl (res_tmp S3 0 2 rfl) (res_tmp S3 1 3 rfl)

set_option maxHeartbeats 400000 in
theorem unit_l (w : World) (z : Int) (hz : 64 < z) :
    Calls Try.prog 13 #[.int .i64 z] w (Gives (TWO (IS (.slice none 0 0)) (IS (.int .i64 2))) w) := by
  refine calls_sta (sl := [(0, (Is (.int .i64 z)))]) Try.func13 rfl Try.ntmps13 (by simp) (args_cons rfl (is_has _) args_nil) ?_
  intro a0 S0
  refine wp_stmt_seq [.val (Is (.slice none 0 0)),
      .val (Is (.int .i64 0))] [] [.inl 0, .inl 1, .inr 0] follows S0 rfl (by kernel_rfl) ?_ ?_
  · refine ⟨⟨trivial, ?_⟩, ?_⟩
    · exact owe_move rfl (wants_all rfl) (Or.inr rfl) (opnd_const _) rfl
    · exact owe_move rfl (wants_all rfl) (Or.inr rfl) (opnd_const _) rfl
  intro B1 a1 W1 S1
  replace S1 : Sta w 28 [] [(2, (Is (.slice none 0 0))), (3, (Is (.int .i64 0))), (0, (Is (.int .i64 z)))] B1 a1 W1 := S1
  refine wp_seq ?_
  refine wp_block ?_
  refine wp_stmt_seq [.val (Is (.int .i64 z)),
      .val (Is (.bool false)),
      .val (Is (.bool false))] [] [.inl 2, .inr 0, .inr 1, .inr 2] follows S1 rfl (by kernel_rfl) ?_ ?_
  · refine ⟨⟨⟨trivial, ?_⟩, ?_⟩, ?_⟩
    · exact owe_move rfl (wants_all rfl) (Or.inl rfl) (opnd_slot 2 0 rfl (by kernel_rfl)) rfl
    · exact owe_bin rfl (wants_all rfl) rfl (opnd_op 0 7 (by kernel_rfl) rfl) (opnd_const _) rfl (fun ρ w h1 h2 => by exact run_lss_int_f ρ _ _ _ w _ _ (by omega) h1 h2)
    · exact owe_move rfl (wants_all rfl) (Or.inr rfl) (opnd_op 1 8 (by kernel_rfl) rfl) rfl
  intro B2 a2 W2 S2
  replace S2 : Sta w 28 [] [(6, (Is (.bool false))), (2, (Is (.slice none 0 0))), (3, (Is (.int .i64 0))), (0, (Is (.int .i64 z)))] B2 a2 W2 := S2
  refine wp_cond_false (S2.bool 0 6 rfl) ?_
  refine wp_stmt_seq [.val (Is (.int .i64 z)),
      .val (Is (.bool true)),
      .val (Is (.bool true))] [] [.inl 2, .inr 0, .inr 1, .inr 2, .inr 3] follows S2 rfl (by kernel_rfl) ?_ ?_
  · refine ⟨⟨⟨trivial, ?_⟩, ?_⟩, ?_⟩
    · exact owe_move rfl (wants_all rfl) (Or.inl rfl) (opnd_slot 3 0 rfl (by kernel_rfl)) rfl
    · exact owe_bin rfl (wants_all rfl) rfl (opnd_op 0 10 (by kernel_rfl) rfl) (opnd_const _) rfl (fun ρ w h1 h2 => by exact run_gtr_int_t ρ _ _ _ w _ _ (by omega) h1 h2)
    · exact owe_move rfl (wants_all rfl) (Or.inr rfl) (opnd_op 1 11 (by kernel_rfl) rfl) rfl
  intro B3 a3 W3 S3
  replace S3 : Sta w 28 [] [(9, (Is (.bool true))), (6, (Is (.bool false))), (2, (Is (.slice none 0 0))), (3, (Is (.int .i64 0))), (0, (Is (.int .i64 z)))] B3 a3 W3 := S3
  refine wp_cond_true (S3.bool 0 9 rfl) ?_
  refine wp_stmt_seq [.val (Is (.slice none 0 0)),
      .val (Is (.int .i64 2))] [] [.inl 0, .inl 1, .inr 0, .inr 1, .inr 4] follows S3 rfl (by kernel_rfl) ?_ ?_
  · refine ⟨⟨trivial, ?_⟩, ?_⟩
    · exact owe_move rfl (wants_all rfl) (Or.inr rfl) (opnd_const _) rfl
    · exact owe_move rfl (wants_all rfl) (Or.inr rfl) (opnd_const _) rfl
  intro B4 a4 W4 S4
  replace S4 : Sta w 28 [] [(2, (Is (.slice none 0 0))), (3, (Is (.int .i64 2))), (9, (Is (.bool true))), (6, (Is (.bool false))), (0, (Is (.int .i64 z)))] B4 a4 W4 := S4
  refine wp_ret ?_
  refine inBlkR ?_
  refine thenR ?_
  exact end_two S4 rfl (res_tmp S4 0 2 rfl) (res_tmp S4 1 3 rfl)

set_option maxHeartbeats 400000 in
theorem runit_n (w : World) (z : Int) (hz : z < 0) :
    Calls Try.prog 14 #[.int .i64 z] w (Gives (TWO (IS (.slice none 0 0)) (IS (.int .i64 1))) w) := by
  refine calls_sta (sl := [(0, (Is (.int .i64 z)))]) Try.func14 rfl Try.ntmps14 (by simp) (args_cons rfl (is_has _) args_nil) ?_
  intro a0 S0
  refine wp_stmt_seq [.val (Is (.slice none 0 0)),
      .val (Is (.int .i64 0))] [] [.inl 0, .inl 1, .inr 0] follows S0 rfl (by kernel_rfl) ?_ ?_
  · refine ⟨⟨trivial, ?_⟩, ?_⟩
    · exact owe_move rfl (wants_all rfl) (Or.inr rfl) (opnd_const _) rfl
    · exact owe_move rfl (wants_all rfl) (Or.inr rfl) (opnd_const _) rfl
  intro B1 a1 W1 S1
  replace S1 : Sta w 38 [] [(2, (Is (.slice none 0 0))), (3, (Is (.int .i64 0))), (0, (Is (.int .i64 z)))] B1 a1 W1 := S1
  refine wp_seq ?_
  refine wp_stmt_seq [.val (Is (.int .i64 z)),
      .val (Is (.bool true))] [] [.inl 1, .inr 0, .inr 1, .inr 2] follows S1 rfl (by kernel_rfl) ?_ ?_
  · refine ⟨⟨trivial, ?_⟩, ?_⟩
    · exact owe_move rfl (wants_all rfl) (Or.inl rfl) (opnd_slot 2 0 rfl (by kernel_rfl)) rfl
    · exact owe_bin rfl (wants_all rfl) rfl (opnd_op 0 8 (by kernel_rfl) rfl) (opnd_const _) rfl (fun ρ w h1 h2 => by exact run_lss_int_t ρ _ _ _ w _ _ (by omega) h1 h2)
  intro B2 a2 W2 S2
  replace S2 : Sta w 38 [] [(9, (Is (.bool true))), (2, (Is (.slice none 0 0))), (3, (Is (.int .i64 0))), (0, (Is (.int .i64 z)))] B2 a2 W2 := S2
  refine wp_cond_true (S2.bool 0 9 rfl) ?_
  refine wp_stmt_seq [.val (Is (.slice none 0 0)),
      .val (Is (.int .i64 1))] [] [.inl 0, .inl 1, .inr 0, .inr 3] follows S2 rfl (by kernel_rfl) ?_ ?_
  · refine ⟨⟨trivial, ?_⟩, ?_⟩
    · exact owe_move rfl (wants_all rfl) (Or.inr rfl) (opnd_const _) rfl
    · exact owe_move rfl (wants_all rfl) (Or.inr rfl) (opnd_const _) rfl
  intro B3 a3 W3 S3
  replace S3 : Sta w 38 [] [(2, (Is (.slice none 0 0))), (3, (Is (.int .i64 1))), (9, (Is (.bool true))), (0, (Is (.int .i64 z)))] B3 a3 W3 := S3
  refine wp_ret ?_
  refine thenR ?_
  exact end_two S3 rfl (res_tmp S3 0 2 rfl) (res_tmp S3 1 3 rfl)

set_option maxHeartbeats 400000 in
theorem runit_l (w : World) (z : Int) (hz : 64 < z) :
    Calls Try.prog 14 #[.int .i64 z] w (Gives (TWO (IS (.slice none 0 0)) (IS (.int .i64 2))) w) := by
  refine calls_sta (sl := [(0, (Is (.int .i64 z)))]) Try.func14 rfl Try.ntmps14 (by simp) (args_cons rfl (is_has _) args_nil) ?_
  intro a0 S0
  refine wp_stmt_seq [.val (Is (.slice none 0 0)),
      .val (Is (.int .i64 0))] [] [.inl 0, .inl 1, .inr 0] follows S0 rfl (by kernel_rfl) ?_ ?_
  · refine ⟨⟨trivial, ?_⟩, ?_⟩
    · exact owe_move rfl (wants_all rfl) (Or.inr rfl) (opnd_const _) rfl
    · exact owe_move rfl (wants_all rfl) (Or.inr rfl) (opnd_const _) rfl
  intro B1 a1 W1 S1
  replace S1 : Sta w 38 [] [(2, (Is (.slice none 0 0))), (3, (Is (.int .i64 0))), (0, (Is (.int .i64 z)))] B1 a1 W1 := S1
  refine wp_seq ?_
  refine wp_stmt_seq [.val (Is (.int .i64 z)),
      .val (Is (.bool false))] [] [.inl 1, .inr 0, .inr 1, .inr 2] follows S1 rfl (by kernel_rfl) ?_ ?_
  · refine ⟨⟨trivial, ?_⟩, ?_⟩
    · exact owe_move rfl (wants_all rfl) (Or.inl rfl) (opnd_slot 2 0 rfl (by kernel_rfl)) rfl
    · exact owe_bin rfl (wants_all rfl) rfl (opnd_op 0 8 (by kernel_rfl) rfl) (opnd_const _) rfl (fun ρ w h1 h2 => by exact run_lss_int_f ρ _ _ _ w _ _ (by omega) h1 h2)
  intro B2 a2 W2 S2
  replace S2 : Sta w 38 [] [(9, (Is (.bool false))), (2, (Is (.slice none 0 0))), (3, (Is (.int .i64 0))), (0, (Is (.int .i64 z)))] B2 a2 W2 := S2
  refine wp_cond_false (S2.bool 0 9 rfl) ?_
  refine wp_skip ?_
  refine thenN ?_
  refine wp_seq ?_
  refine wp_stmt_seq [.val (Is (.int .i64 z)),
      .val (Is (.bool true))] [] [.inl 1, .inr 0, .inr 1, .inr 2, .inr 3] follows S2 rfl (by kernel_rfl) ?_ ?_
  · refine ⟨⟨trivial, ?_⟩, ?_⟩
    · exact owe_move rfl (wants_all rfl) (Or.inl rfl) (opnd_slot 3 0 rfl (by kernel_rfl)) rfl
    · exact owe_bin rfl (wants_all rfl) rfl (opnd_op 0 10 (by kernel_rfl) rfl) (opnd_const _) rfl (fun ρ w h1 h2 => by exact run_gtr_int_t ρ _ _ _ w _ _ (by omega) h1 h2)
  intro B3 a3 W3 S3
  replace S3 : Sta w 38 [] [(11, (Is (.bool true))), (9, (Is (.bool false))), (2, (Is (.slice none 0 0))), (3, (Is (.int .i64 0))), (0, (Is (.int .i64 z)))] B3 a3 W3 := S3
  refine wp_cond_true (S3.bool 0 11 rfl) ?_
  refine wp_stmt_seq [.val (Is (.slice none 0 0)),
      .val (Is (.int .i64 2))] [] [.inl 0, .inl 1, .inr 0, .inr 1, .inr 4] follows S3 rfl (by kernel_rfl) ?_ ?_
  · refine ⟨⟨trivial, ?_⟩, ?_⟩
    · exact owe_move rfl (wants_all rfl) (Or.inr rfl) (opnd_const _) rfl
    · exact owe_move rfl (wants_all rfl) (Or.inr rfl) (opnd_const _) rfl
  intro B4 a4 W4 S4
  replace S4 : Sta w 38 [] [(2, (Is (.slice none 0 0))), (3, (Is (.int .i64 2))), (11, (Is (.bool true))), (9, (Is (.bool false))), (0, (Is (.int .i64 z)))] B4 a4 W4 := S4
  refine wp_ret ?_
  refine thenR ?_
  exact end_two S4 rfl (res_tmp S4 0 2 rfl) (res_tmp S4 1 3 rfl)

set_option maxHeartbeats 400000 in
theorem runit_y (w : World) (n : Nat) (hn : n ≤ 64) :
    Calls Try.prog 14 #[.int .i64 (n : Nat)] w (Gives (TWO (MN n (unitZ n)) (IS (.int .i64 0))) w) := by
  refine calls_sta (sl := [(0, (Is (.int .i64 (n : Nat))))]) Try.func14 rfl Try.ntmps14 (by simp) (args_cons rfl (is_has _) args_nil) ?_
  intro a0 S0
  refine wp_stmt_seq [.val (Is (.slice none 0 0)),
      .val (Is (.int .i64 0))] [] [.inl 0, .inl 1, .inr 0] follows S0 rfl (by kernel_rfl) ?_ ?_
  · refine ⟨⟨trivial, ?_⟩, ?_⟩
    · exact owe_move rfl (wants_all rfl) (Or.inr rfl) (opnd_const _) rfl
    · exact owe_move rfl (wants_all rfl) (Or.inr rfl) (opnd_const _) rfl
  intro B1 a1 W1 S1
  replace S1 : Sta w 38 [] [(2, (Is (.slice none 0 0))), (3, (Is (.int .i64 0))), (0, (Is (.int .i64 (n : Nat))))] B1 a1 W1 := S1
  refine wp_seq ?_
  refine wp_stmt_seq [.val (Is (.int .i64 (n : Nat))),
      .val (Is (.bool false))] [] [.inl 1, .inr 0, .inr 1, .inr 2] follows S1 rfl (by kernel_rfl) ?_ ?_
  · refine ⟨⟨trivial, ?_⟩, ?_⟩
    · exact owe_move rfl (wants_all rfl) (Or.inl rfl) (opnd_slot 2 0 rfl (by kernel_rfl)) rfl
    · exact owe_bin rfl (wants_all rfl) rfl (opnd_op 0 8 (by kernel_rfl) rfl) (opnd_const _) rfl (fun ρ w h1 h2 => by exact run_lss_int_f ρ _ _ _ w _ _ (by omega) h1 h2)
  intro B2 a2 W2 S2
  replace S2 : Sta w 38 [] [(9, (Is (.bool false))), (2, (Is (.slice none 0 0))), (3, (Is (.int .i64 0))), (0, (Is (.int .i64 (n : Nat))))] B2 a2 W2 := S2
  refine wp_cond_false (S2.bool 0 9 rfl) ?_
  refine wp_skip ?_
  refine thenN ?_
  refine wp_seq ?_
  refine wp_stmt_seq [.val (Is (.int .i64 (n : Nat))),
      .val (Is (.bool false))] [] [.inl 1, .inr 0, .inr 1, .inr 2, .inr 3] follows S2 rfl (by kernel_rfl) ?_ ?_
  · refine ⟨⟨trivial, ?_⟩, ?_⟩
    · exact owe_move rfl (wants_all rfl) (Or.inl rfl) (opnd_slot 3 0 rfl (by kernel_rfl)) rfl
    · exact owe_bin rfl (wants_all rfl) rfl (opnd_op 0 10 (by kernel_rfl) rfl) (opnd_const _) rfl (fun ρ w h1 h2 => by exact run_gtr_int_f ρ _ _ _ w _ _ (by omega) h1 h2)
  intro B3 a3 W3 S3
  replace S3 : Sta w 38 [] [(11, (Is (.bool false))), (9, (Is (.bool false))), (2, (Is (.slice none 0 0))), (3, (Is (.int .i64 0))), (0, (Is (.int .i64 (n : Nat))))] B3 a3 W3 := S3
  refine wp_cond_false (S3.bool 0 11 rfl) ?_
  refine wp_skip ?_
  refine thenN ?_
  refine wp_stmt_seq [.new (.row 36 1 0 (CE 1 ((((unitZ n).map (fun zs => VN zs.length zs)).map (· w.heap.size)).take 0)))] [.inl 0] [.inr 0, .inr 1, .inr 2, .inr 3, .inr 4] follows S3 rfl (by kernel_rfl) ?_ ?_
  · refine ⟨trivial, ?_⟩
    · exact owe_nilrow rfl (wants_all rfl) rfl rfl ce_nil
  intro B4 a4 W4 S4
  replace S4 : Sta w 38 [(4, (.row 36 1 0 (CE 1 ((((unitZ n).map (fun zs => VN zs.length zs)).map (· w.heap.size)).take 0))))] [(11, (Is (.bool false))), (9, (Is (.bool false))), (2, (Is (.slice none 0 0))), (3, (Is (.int .i64 0))), (0, (Is (.int .i64 (n : Nat))))] B4 a4 W4 := S4
  refine wp_seq ?_
  refine wp_stmt_seq [.val (Is (.int .i64 0))] [.inr 0] [.inl 0, .inr 0, .inr 1, .inr 2, .inr 3, .inr 4] follows S4 rfl (by kernel_rfl) ?_ ?_
  · refine ⟨trivial, ?_⟩
    · exact owe_move rfl (wants_all rfl) (Or.inr rfl) (opnd_const _) rfl
  intro B5 a5 W5 S5
  replace S5 : Sta w 38 [(4, (.row 36 1 0 (CE 1 ((((unitZ n).map (fun zs => VN zs.length zs)).map (· w.heap.size)).take 0))))] [(5, (Is (.int .i64 0))), (11, (Is (.bool false))), (9, (Is (.bool false))), (2, (Is (.slice none 0 0))), (3, (Is (.int .i64 0))), (0, (Is (.int .i64 (n : Nat))))] B5 a5 W5 := S5
  refine wp_block ?_
  refine wp_loop_ghost (fun (k0 : Nat) a W => (k0 ≤ n) ∧ ∃ Bq, Sta w 38 [(4, (.row 36 1 k0 (CE 1 ((((unitZ n).map (fun zs => VN zs.length zs)).map (· w.heap.size)).take k0))))] [(5, (Is (.int .i64 k0))), (0, (Is (.int .i64 (n : Nat))))] Bq a W) (fun (k0 : Nat) => n - k0) ?_ 0 ⟨Nat.zero_le _, B5, S5.sub [0] [0, 5]⟩
  rintro k0 a6 W6 ⟨hcond, B6, S6⟩
  by_cases hlt : k0 < n
  · have hzo : (unitZ n)[k0]? = some ((List.range n).map (fun j => unitF k0 j)) := map_get' (fun i => (List.range n).map (fun j => unitF i j)) (List.getElem?_range hlt)
    have htk : (((unitZ n).map (fun zs => VN zs.length zs)).map (· w.heap.size)).take (k0 + 1) = (((unitZ n).map (fun zs => VN zs.length zs)).map (· w.heap.size)).take k0 ++ [VN ((List.range n).map (fun j => unitF k0 j)).length ((List.range n).map (fun j => unitF k0 j)) w.heap.size] := by rw [List.take_add_one, map_get' _ (map_get' _ hzo)]; rfl
    refine wp_seq ?_
    refine wp_stmt_seq [.val (Is (.int .i64 k0)),
      .val (Is (.int .i64 (n : Nat))),
      .val (Is (.bool true))] [.inr 0] [.inl 2, .inr 0, .inr 1] follows S6 rfl (by kernel_rfl) ?_ ?_
    · refine ⟨⟨⟨trivial, ?_⟩, ?_⟩, ?_⟩
      · exact owe_move rfl (wants_all rfl) (Or.inl rfl) (opnd_slot 0 5 rfl (by kernel_rfl)) rfl
      · exact owe_move rfl (wants_all rfl) (Or.inl rfl) (opnd_slot 1 0 rfl (by kernel_rfl)) rfl
      · exact owe_bin rfl (wants_all rfl) rfl (opnd_op 0 12 (by kernel_rfl) rfl) (opnd_op 1 13 (by kernel_rfl) rfl) rfl (fun ρ w h1 h2 => by exact run_lss_int_t ρ _ _ _ w _ _ (by omega) h1 h2)
    intro B7 a7 W7 S7
    replace S7 : Sta w 38 [(4, (.row 36 1 k0 (CE 1 ((((unitZ n).map (fun zs => VN zs.length zs)).map (· w.heap.size)).take k0))))] [(14, (Is (.bool true))), (5, (Is (.int .i64 k0))), (0, (Is (.int .i64 (n : Nat))))] B7 a7 W7 := S7
    refine wp_cond_true (S7.bool 0 14 rfl) ?_
    refine wp_skip ?_
    refine thenN ?_
    refine wp_seq ?_
    refine wp_block ?_
    refine wp_stmt_seq [.new (.row 39 2 0 (CE 2 (((((List.range n).map (fun j => unitF k0 j)).map ZN).map (· w.heap.size)).take 0)))] [.inr 0, .inl 0] [.inr 0, .inr 1, .inr 2] follows S7 rfl (by kernel_rfl) ?_ ?_
    · refine ⟨trivial, ?_⟩
      · exact owe_nilrow rfl (wants_all rfl) rfl rfl ce_nil
    intro B8 a8 W8 S8
    replace S8 : Sta w 38 [(4, (.row 36 1 k0 (CE 1 ((((unitZ n).map (fun zs => VN zs.length zs)).map (· w.heap.size)).take k0)))), (6, (.row 39 2 0 (CE 2 (((((List.range n).map (fun j => unitF k0 j)).map ZN).map (· w.heap.size)).take 0))))] [(14, (Is (.bool true))), (5, (Is (.int .i64 k0))), (0, (Is (.int .i64 (n : Nat))))] B8 a8 W8 := S8
    refine wp_seq ?_
    refine wp_stmt_seq [.val (Is (.int .i64 0))] [.inr 0, .inr 1] [.inl 0, .inr 0, .inr 1, .inr 2] follows S8 rfl (by kernel_rfl) ?_ ?_
    · refine ⟨trivial, ?_⟩
      · exact owe_move rfl (wants_all rfl) (Or.inr rfl) (opnd_const _) rfl
    intro B9 a9 W9 S9
    replace S9 : Sta w 38 [(4, (.row 36 1 k0 (CE 1 ((((unitZ n).map (fun zs => VN zs.length zs)).map (· w.heap.size)).take k0)))), (6, (.row 39 2 0 (CE 2 (((((List.range n).map (fun j => unitF k0 j)).map ZN).map (· w.heap.size)).take 0))))] [(7, (Is (.int .i64 0))), (14, (Is (.bool true))), (5, (Is (.int .i64 k0))), (0, (Is (.int .i64 (n : Nat))))] B9 a9 W9 := S9
    refine wp_block ?_
    refine wp_loop_ghost (fun (k1 : Nat) a W => (k1 ≤ n) ∧ ∃ Bq, Sta w 38 [(4, (.row 36 1 k0 (CE 1 ((((unitZ n).map (fun zs => VN zs.length zs)).map (· w.heap.size)).take k0)))), (6, (.row 39 2 k1 (CE 2 (((((List.range n).map (fun j => unitF k0 j)).map ZN).map (· w.heap.size)).take k1))))] [(7, (Is (.int .i64 k1))), (5, (Is (.int .i64 k0))), (0, (Is (.int .i64 (n : Nat))))] Bq a W) (fun (k1 : Nat) => n - k1) ?_ 0 ⟨Nat.zero_le _, B9, S9.sub [0, 1] [0, 2, 3]⟩
    rintro k1 a10 W10 ⟨hcond, B10, S10⟩
    rcases (show (k1 < n ∧ k0 = k1) ∨ (k1 < n ∧ k0 ≠ k1) ∨ n ≤ k1 from by omega) with ⟨q1, q2⟩ | ⟨q1, q2⟩ | q1
    · have hz : ((List.range n).map (fun j => unitF k0 j))[k1]? = some (1) := by rw [map_get' (fun j => unitF k0 j) (List.getElem?_range (by omega))]; exact congrArg some (if_pos (by omega))
      have htk1 : ((((List.range n).map (fun j => unitF k0 j)).map ZN).map (· w.heap.size)).take (k1 + 1) = ((((List.range n).map (fun j => unitF k0 j)).map ZN).map (· w.heap.size)).take k1 ++ [ZN (1) w.heap.size] := by rw [List.take_add_one, map_get' _ (map_get' _ hz)]; rfl
      refine wp_seq ?_
      refine wp_stmt_seq [.val (Is (.int .i64 k1)),
      .val (Is (.int .i64 (n : Nat))),
      .val (Is (.bool true))] [.inr 0, .inr 1] [.inl 2, .inr 0, .inr 1, .inr 2] follows S10 rfl (by kernel_rfl) ?_ ?_
      · refine ⟨⟨⟨trivial, ?_⟩, ?_⟩, ?_⟩
        · exact owe_move rfl (wants_all rfl) (Or.inl rfl) (opnd_slot 0 7 rfl (by kernel_rfl)) rfl
        · exact owe_move rfl (wants_all rfl) (Or.inl rfl) (opnd_slot 2 0 rfl (by kernel_rfl)) rfl
        · exact owe_bin rfl (wants_all rfl) rfl (opnd_op 0 17 (by kernel_rfl) rfl) (opnd_op 1 18 (by kernel_rfl) rfl) rfl (fun ρ w h1 h2 => by exact run_lss_int_t ρ _ _ _ w _ _ (by omega) h1 h2)
      intro B11 a11 W11 S11
      replace S11 : Sta w 38 [(4, (.row 36 1 k0 (CE 1 ((((unitZ n).map (fun zs => VN zs.length zs)).map (· w.heap.size)).take k0)))), (6, (.row 39 2 k1 (CE 2 (((((List.range n).map (fun j => unitF k0 j)).map ZN).map (· w.heap.size)).take k1))))] [(19, (Is (.bool true))), (7, (Is (.int .i64 k1))), (5, (Is (.int .i64 k0))), (0, (Is (.int .i64 (n : Nat))))] B11 a11 W11 := S11
      refine wp_cond_true (S11.bool 0 19 rfl) ?_
      refine wp_skip ?_
      refine thenN ?_
      refine wp_seq ?_
      refine wp_block ?_
      refine wp_stmt_seq [.val (Is (.int .i64 k0)),
      .val (Is (.int .i64 k1)),
      .val (Is (.bool true))] [.inr 0, .inr 1] [.inl 2, .inr 0, .inr 1, .inr 2, .inr 3] follows S11 rfl (by kernel_rfl) ?_ ?_
      · refine ⟨⟨⟨trivial, ?_⟩, ?_⟩, ?_⟩
        · exact owe_move rfl (wants_all rfl) (Or.inl rfl) (opnd_slot 2 5 rfl (by kernel_rfl)) rfl
        · exact owe_move rfl (wants_all rfl) (Or.inl rfl) (opnd_slot 1 7 rfl (by kernel_rfl)) rfl
        · exact owe_bin rfl (wants_all rfl) rfl (opnd_op 0 22 (by kernel_rfl) rfl) (opnd_op 1 23 (by kernel_rfl) rfl) rfl (fun ρ w h1 h2 => by exact run_eql_int_t ρ _ _ _ w _ _ (by omega) h1 h2)
      intro B12 a12 W12 S12
      replace S12 : Sta w 38 [(4, (.row 36 1 k0 (CE 1 ((((unitZ n).map (fun zs => VN zs.length zs)).map (· w.heap.size)).take k0)))), (6, (.row 39 2 k1 (CE 2 (((((List.range n).map (fun j => unitF k0 j)).map ZN).map (· w.heap.size)).take k1))))] [(24, (Is (.bool true))), (19, (Is (.bool true))), (7, (Is (.int .i64 k1))), (5, (Is (.int .i64 k0))), (0, (Is (.int .i64 (n : Nat))))] B12 a12 W12 := S12
      refine wp_cond_true (S12.bool 0 24 rfl) ?_
      refine wp_stmt [.val (Is (a12.eval (.tmp 6))),
      .val ((ZN (1)) w.heap.size),
      .val (Sng 39 2 ((ZN (1)) w.heap.size) w.heap.size),
      .mov 6 (.row 39 2 (k1 + 1) (CE 2 (((((List.range n).map (fun j => unitF k0 j)).map ZN).map (· w.heap.size)).take (k1 + 1)))),
      .ref 3] [.inr 0, .inl 4] [.inr 0, .inr 1, .inr 2, .inr 3, .inr 4] follows S12 rfl (by kernel_rfl) ?_ ?_
      · refine ⟨⟨⟨⟨⟨trivial, ?_⟩, ?_⟩, ?_⟩, ?_⟩, ?_⟩
        · exact owe_same rfl (wants_all rfl) (Or.inl rfl) (by kernel_rfl) rfl
        · exact owe_call1 rfl (wants_all rfl) rfl (opnd_const _) (fresh_zn _) rfl (fun args w => by go_simp) (g_rof (1) (by decide) (by decide))
        · exact owe_b1 rfl (wants_all rfl) rfl bld_int (opnd_op 1 26 (by kernel_rfl) rfl) (cel_shp (by decide) shp_zn) rfl
        · exact owe_append rfl (wants_all rfl) rfl (opnd_op 0 25 (by kernel_rfl) rfl) (k := 1) rfl (by kernel_rfl) ((opnd_op 2 27 (by kernel_rfl) rfl).imp b1_src) einf_int Try.underlying36 (by decide) ⟨by unfold maxLen; omega, by omega⟩ rfl (fun xs ys w h1 h2 => by rw [htk1]; exact ce_append xs ys w h1 h2)
        · exact owe_ref 3 rfl (wants_all rfl) (Or.inr rfl) (by kernel_rfl) rfl rfl
      intro B13 a13 W13 S13
      replace S13 : Sta w 38 [(4, (.row 36 1 k0 (CE 1 ((((unitZ n).map (fun zs => VN zs.length zs)).map (· w.heap.size)).take k0)))), (6, (.row 39 2 (k1 + 1) (CE 2 (((((List.range n).map (fun j => unitF k0 j)).map ZN).map (· w.heap.size)).take (k1 + 1)))))] [(24, (Is (.bool true))), (19, (Is (.bool true))), (7, (Is (.int .i64 k1))), (5, (Is (.int .i64 k0))), (0, (Is (.int .i64 (n : Nat))))] B13 a13 W13 := S13
      refine inBlkN ?_
      refine thenN ?_
      refine wp_stmt [.val (Is (.int .i64 k1)),
      .val (Is (.int .i64 (k1 + 1 : Nat))),
      .val (Is (.int .i64 (k1 + 1 : Nat)))] [.inr 0, .inr 1] [.inl 2, .inr 0, .inr 1, .inr 3, .inr 4] follows S13 rfl (by kernel_rfl) ?_ ?_
      · refine ⟨⟨⟨trivial, ?_⟩, ?_⟩, ?_⟩
        · exact owe_move rfl (wants_all rfl) (Or.inl rfl) (opnd_slot 2 7 rfl (by kernel_rfl)) rfl
        · exact owe_bin rfl (wants_all rfl) rfl (opnd_op 0 20 (by kernel_rfl) rfl) (opnd_const _) rfl (fun ρ w h1 h2 => by exact run_add_int ρ _ _ _ w _ _ _ ⟨by omega, by omega, by omega⟩ h1 h2)
        · exact owe_move rfl (wants_all rfl) (Or.inr rfl) (opnd_op 1 21 (by kernel_rfl) rfl) rfl
      intro B14 a14 W14 S14
      replace S14 : Sta w 38 [(4, (.row 36 1 k0 (CE 1 ((((unitZ n).map (fun zs => VN zs.length zs)).map (· w.heap.size)).take k0)))), (6, (.row 39 2 (k1 + 1) (CE 2 (((((List.range n).map (fun j => unitF k0 j)).map ZN).map (· w.heap.size)).take (k1 + 1)))))] [(7, (Is (.int .i64 (k1 + 1 : Nat)))), (24, (Is (.bool true))), (19, (Is (.bool true))), (5, (Is (.int .i64 k0))), (0, (Is (.int .i64 (n : Nat))))] B14 a14 W14 := S14
      refine thenN ?_
      exact ⟨k1 + 1, ⟨by omega, B14, S14.sub [0, 1] [0, 3, 4]⟩, by omega⟩
    · have hz : ((List.range n).map (fun j => unitF k0 j))[k1]? = some (0) := by rw [map_get' (fun j => unitF k0 j) (List.getElem?_range (by omega))]; exact congrArg some (if_neg (by omega))
      have htk1 : ((((List.range n).map (fun j => unitF k0 j)).map ZN).map (· w.heap.size)).take (k1 + 1) = ((((List.range n).map (fun j => unitF k0 j)).map ZN).map (· w.heap.size)).take k1 ++ [ZN (0) w.heap.size] := by rw [List.take_add_one, map_get' _ (map_get' _ hz)]; rfl
      refine wp_seq ?_
      refine wp_stmt_seq [.val (Is (.int .i64 k1)),
      .val (Is (.int .i64 (n : Nat))),
      .val (Is (.bool true))] [.inr 0, .inr 1] [.inl 2, .inr 0, .inr 1, .inr 2] follows S10 rfl (by kernel_rfl) ?_ ?_
      · refine ⟨⟨⟨trivial, ?_⟩, ?_⟩, ?_⟩
        · exact owe_move rfl (wants_all rfl) (Or.inl rfl) (opnd_slot 0 7 rfl (by kernel_rfl)) rfl
        · exact owe_move rfl (wants_all rfl) (Or.inl rfl) (opnd_slot 2 0 rfl (by kernel_rfl)) rfl
        · exact owe_bin rfl (wants_all rfl) rfl (opnd_op 0 17 (by kernel_rfl) rfl) (opnd_op 1 18 (by kernel_rfl) rfl) rfl (fun ρ w h1 h2 => by exact run_lss_int_t ρ _ _ _ w _ _ (by omega) h1 h2)
      intro B11 a11 W11 S11
      replace S11 : Sta w 38 [(4, (.row 36 1 k0 (CE 1 ((((unitZ n).map (fun zs => VN zs.length zs)).map (· w.heap.size)).take k0)))), (6, (.row 39 2 k1 (CE 2 (((((List.range n).map (fun j => unitF k0 j)).map ZN).map (· w.heap.size)).take k1))))] [(19, (Is (.bool true))), (7, (Is (.int .i64 k1))), (5, (Is (.int .i64 k0))), (0, (Is (.int .i64 (n : Nat))))] B11 a11 W11 := S11
      refine wp_cond_true (S11.bool 0 19 rfl) ?_
      refine wp_skip ?_
      refine thenN ?_
      refine wp_seq ?_
      refine wp_block ?_
      refine wp_stmt_seq [.val (Is (.int .i64 k0)),
      .val (Is (.int .i64 k1)),
      .val (Is (.bool false))] [.inr 0, .inr 1] [.inl 2, .inr 0, .inr 1, .inr 2, .inr 3] follows S11 rfl (by kernel_rfl) ?_ ?_
      · refine ⟨⟨⟨trivial, ?_⟩, ?_⟩, ?_⟩
        · exact owe_move rfl (wants_all rfl) (Or.inl rfl) (opnd_slot 2 5 rfl (by kernel_rfl)) rfl
        · exact owe_move rfl (wants_all rfl) (Or.inl rfl) (opnd_slot 1 7 rfl (by kernel_rfl)) rfl
        · exact owe_bin rfl (wants_all rfl) rfl (opnd_op 0 22 (by kernel_rfl) rfl) (opnd_op 1 23 (by kernel_rfl) rfl) rfl (fun ρ w h1 h2 => by exact run_eql_int_f ρ _ _ _ w _ _ (by omega) h1 h2)
      intro B12 a12 W12 S12
      replace S12 : Sta w 38 [(4, (.row 36 1 k0 (CE 1 ((((unitZ n).map (fun zs => VN zs.length zs)).map (· w.heap.size)).take k0)))), (6, (.row 39 2 k1 (CE 2 (((((List.range n).map (fun j => unitF k0 j)).map ZN).map (· w.heap.size)).take k1))))] [(24, (Is (.bool false))), (19, (Is (.bool true))), (7, (Is (.int .i64 k1))), (5, (Is (.int .i64 k0))), (0, (Is (.int .i64 (n : Nat))))] B12 a12 W12 := S12
      refine wp_cond_false (S12.bool 0 24 rfl) ?_
      refine wp_stmt [.val (Is (a12.eval (.tmp 6))),
      .val ((ZN (0)) w.heap.size),
      .val (Sng 39 2 ((ZN (0)) w.heap.size) w.heap.size),
      .mov 6 (.row 39 2 (k1 + 1) (CE 2 (((((List.range n).map (fun j => unitF k0 j)).map ZN).map (· w.heap.size)).take (k1 + 1)))),
      .ref 3] [.inr 0, .inl 4] [.inr 0, .inr 1, .inr 2, .inr 3, .inr 4] follows S12 rfl (by kernel_rfl) ?_ ?_
      · refine ⟨⟨⟨⟨⟨trivial, ?_⟩, ?_⟩, ?_⟩, ?_⟩, ?_⟩
        · exact owe_same rfl (wants_all rfl) (Or.inl rfl) (by kernel_rfl) rfl
        · exact owe_call1 rfl (wants_all rfl) rfl (opnd_const _) (fresh_zn _) rfl (fun args w => by go_simp) (g_rof (0) (by decide) (by decide))
        · exact owe_b1 rfl (wants_all rfl) rfl bld_int (opnd_op 1 30 (by kernel_rfl) rfl) (cel_shp (by decide) shp_zn) rfl
        · exact owe_append rfl (wants_all rfl) rfl (opnd_op 0 29 (by kernel_rfl) rfl) (k := 1) rfl (by kernel_rfl) ((opnd_op 2 31 (by kernel_rfl) rfl).imp b1_src) einf_int Try.underlying36 (by decide) ⟨by unfold maxLen; omega, by omega⟩ rfl (fun xs ys w h1 h2 => by rw [htk1]; exact ce_append xs ys w h1 h2)
        · exact owe_ref 3 rfl (wants_all rfl) (Or.inr rfl) (by kernel_rfl) rfl rfl
      intro B13 a13 W13 S13
      replace S13 : Sta w 38 [(4, (.row 36 1 k0 (CE 1 ((((unitZ n).map (fun zs => VN zs.length zs)).map (· w.heap.size)).take k0)))), (6, (.row 39 2 (k1 + 1) (CE 2 (((((List.range n).map (fun j => unitF k0 j)).map ZN).map (· w.heap.size)).take (k1 + 1)))))] [(24, (Is (.bool false))), (19, (Is (.bool true))), (7, (Is (.int .i64 k1))), (5, (Is (.int .i64 k0))), (0, (Is (.int .i64 (n : Nat))))] B13 a13 W13 := S13
      refine inBlkN ?_
      refine thenN ?_
      refine wp_stmt [.val (Is (.int .i64 k1)),
      .val (Is (.int .i64 (k1 + 1 : Nat))),
      .val (Is (.int .i64 (k1 + 1 : Nat)))] [.inr 0, .inr 1] [.inl 2, .inr 0, .inr 1, .inr 3, .inr 4] follows S13 rfl (by kernel_rfl) ?_ ?_
      · refine ⟨⟨⟨trivial, ?_⟩, ?_⟩, ?_⟩
        · exact owe_move rfl (wants_all rfl) (Or.inl rfl) (opnd_slot 2 7 rfl (by kernel_rfl)) rfl
        · exact owe_bin rfl (wants_all rfl) rfl (opnd_op 0 20 (by kernel_rfl) rfl) (opnd_const _) rfl (fun ρ w h1 h2 => by exact run_add_int ρ _ _ _ w _ _ _ ⟨by omega, by omega, by omega⟩ h1 h2)
        · exact owe_move rfl (wants_all rfl) (Or.inr rfl) (opnd_op 1 21 (by kernel_rfl) rfl) rfl
      intro B14 a14 W14 S14
      replace S14 : Sta w 38 [(4, (.row 36 1 k0 (CE 1 ((((unitZ n).map (fun zs => VN zs.length zs)).map (· w.heap.size)).take k0)))), (6, (.row 39 2 (k1 + 1) (CE 2 (((((List.range n).map (fun j => unitF k0 j)).map ZN).map (· w.heap.size)).take (k1 + 1)))))] [(7, (Is (.int .i64 (k1 + 1 : Nat)))), (24, (Is (.bool false))), (19, (Is (.bool true))), (5, (Is (.int .i64 k0))), (0, (Is (.int .i64 (n : Nat))))] B14 a14 W14 := S14
      refine thenN ?_
      exact ⟨k1 + 1, ⟨by omega, B14, S14.sub [0, 1] [0, 3, 4]⟩, by omega⟩
    · have ek1 : n = k1 := by omega
      have hend1 : ((((List.range n).map (fun j => unitF k0 j)).map ZN).map (· w.heap.size)).take k1 = ((((List.range n).map (fun j => unitF k0 j)).map ZN).map (· w.heap.size)) := List.take_of_length_le (by simp; omega)
      refine wp_seq ?_
      refine wp_stmt_seq [.val (Is (.int .i64 k1)),
      .val (Is (.int .i64 (n : Nat))),
      .val (Is (.bool false))] [.inr 0, .inr 1] [.inl 2, .inr 0, .inr 1, .inr 2] follows S10 rfl (by kernel_rfl) ?_ ?_
      · refine ⟨⟨⟨trivial, ?_⟩, ?_⟩, ?_⟩
        · exact owe_move rfl (wants_all rfl) (Or.inl rfl) (opnd_slot 0 7 rfl (by kernel_rfl)) rfl
        · exact owe_move rfl (wants_all rfl) (Or.inl rfl) (opnd_slot 2 0 rfl (by kernel_rfl)) rfl
        · exact owe_bin rfl (wants_all rfl) rfl (opnd_op 0 17 (by kernel_rfl) rfl) (opnd_op 1 18 (by kernel_rfl) rfl) rfl (fun ρ w h1 h2 => by exact run_lss_int_f ρ _ _ _ w _ _ (by omega) h1 h2)
      intro B11 a11 W11 S11
      replace S11 : Sta w 38 [(4, (.row 36 1 k0 (CE 1 ((((unitZ n).map (fun zs => VN zs.length zs)).map (· w.heap.size)).take k0)))), (6, (.row 39 2 k1 (CE 2 (((((List.range n).map (fun j => unitF k0 j)).map ZN).map (· w.heap.size)).take k1))))] [(19, (Is (.bool false))), (7, (Is (.int .i64 k1))), (5, (Is (.int .i64 k0))), (0, (Is (.int .i64 (n : Nat))))] B11 a11 W11 := S11
      refine wp_cond_false (S11.bool 0 19 rfl) ?_
      refine wp_exit ?_
      refine thenX ?_
      refine thenX ?_
      refine inBlkE ?_
      refine thenN ?_
      obtain ⟨B12, S12⟩ : ∃ Bq, Sta w 38 [(4, (.row 36 1 k0 (CE 1 ((((unitZ n).map (fun zs => VN zs.length zs)).map (· w.heap.size)).take k0))))] [(6, ((VN (((List.range n).map (fun j => unitF k0 j)).length) ((List.range n).map (fun j => unitF k0 j))) w.heap.size)), (19, (Is (.bool false))), (7, (Is (.int .i64 k1))), (5, (Is (.int .i64 k0))), (0, (Is (.int .i64 (n : Nat))))] Bq a11 W11 := ⟨_, S11.freeze 1 rfl (by simp) (fun v w' xs ho hc => by rw [hend1] at hc; rw [← ek1] at ho; rw [show ((List.range n).map (fun j => unitF k0 j)).length = n from (by simp)]; exact row_lf (by decide) v w' xs ho hc)⟩
      obtain ⟨a12, W12, e1, e2⟩ : ∃ a W, a11 = a ∧ W11 = W := ⟨_, _, rfl, rfl⟩
      rw [e1, e2] at S12 ⊢
      clear e1 e2
      refine wp_stmt [.val (Is (a12.eval (.tmp 4))),
      .val ((VN (((List.range n).map (fun j => unitF k0 j)).length) ((List.range n).map (fun j => unitF k0 j))) w.heap.size),
      .val (Sng 36 1 ((VN (((List.range n).map (fun j => unitF k0 j)).length) ((List.range n).map (fun j => unitF k0 j))) w.heap.size) w.heap.size),
      .mov 4 (.row 36 1 (k0 + 1) (CE 1 ((((unitZ n).map (fun zs => VN zs.length zs)).map (· w.heap.size)).take (k0 + 1)))),
      .ref 3] [.inl 4] [.inr 0, .inr 1, .inr 2, .inr 3, .inr 4] follows S12 rfl (by kernel_rfl) ?_ ?_
      · refine ⟨⟨⟨⟨⟨trivial, ?_⟩, ?_⟩, ?_⟩, ?_⟩, ?_⟩
        · exact owe_same rfl (wants_all rfl) (Or.inl rfl) (by kernel_rfl) rfl
        · exact owe_move rfl (wants_all rfl) (Or.inl rfl) (opnd_slot 0 6 rfl (by kernel_rfl)) rfl
        · exact owe_b1 rfl (wants_all rfl) rfl bld_row1 (opnd_op 1 34 (by kernel_rfl) rfl) cel_vn rfl
        · exact owe_append rfl (wants_all rfl) rfl (opnd_op 0 33 (by kernel_rfl) rfl) (k := 0) rfl (by kernel_rfl) ((opnd_op 2 35 (by kernel_rfl) rfl).imp b1_src) einf_row1 Try.underlying22 (by decide) ⟨by unfold maxLen; omega, by omega⟩ rfl (fun xs ys w h1 h2 => by rw [htk]; exact ce_append xs ys w h1 h2)
        · exact owe_ref 3 rfl (wants_all rfl) (Or.inr rfl) (by kernel_rfl) rfl rfl
      intro B13 a13 W13 S13
      replace S13 : Sta w 38 [(4, (.row 36 1 (k0 + 1) (CE 1 ((((unitZ n).map (fun zs => VN zs.length zs)).map (· w.heap.size)).take (k0 + 1)))))] [(6, ((VN (((List.range n).map (fun j => unitF k0 j)).length) ((List.range n).map (fun j => unitF k0 j))) w.heap.size)), (19, (Is (.bool false))), (7, (Is (.int .i64 k1))), (5, (Is (.int .i64 k0))), (0, (Is (.int .i64 (n : Nat))))] B13 a13 W13 := S13
      refine inBlkN ?_
      refine thenN ?_
      refine wp_stmt [.val (Is (.int .i64 k0)),
      .val (Is (.int .i64 (k0 + 1 : Nat))),
      .val (Is (.int .i64 (k0 + 1 : Nat)))] [.inr 0] [.inl 2, .inr 0, .inr 1, .inr 2, .inr 4] follows S13 rfl (by kernel_rfl) ?_ ?_
      · refine ⟨⟨⟨trivial, ?_⟩, ?_⟩, ?_⟩
        · exact owe_move rfl (wants_all rfl) (Or.inl rfl) (opnd_slot 3 5 rfl (by kernel_rfl)) rfl
        · exact owe_bin rfl (wants_all rfl) rfl (opnd_op 0 15 (by kernel_rfl) rfl) (opnd_const _) rfl (fun ρ w h1 h2 => by exact run_add_int ρ _ _ _ w _ _ _ ⟨by omega, by omega, by omega⟩ h1 h2)
        · exact owe_move rfl (wants_all rfl) (Or.inr rfl) (opnd_op 1 16 (by kernel_rfl) rfl) rfl
      intro B14 a14 W14 S14
      replace S14 : Sta w 38 [(4, (.row 36 1 (k0 + 1) (CE 1 ((((unitZ n).map (fun zs => VN zs.length zs)).map (· w.heap.size)).take (k0 + 1)))))] [(5, (Is (.int .i64 (k0 + 1 : Nat)))), (6, ((VN (((List.range n).map (fun j => unitF k0 j)).length) ((List.range n).map (fun j => unitF k0 j))) w.heap.size)), (19, (Is (.bool false))), (7, (Is (.int .i64 k1))), (0, (Is (.int .i64 (n : Nat))))] B14 a14 W14 := S14
      refine thenN ?_
      exact ⟨k0 + 1, ⟨by omega, B14, S14.sub [0] [0, 4]⟩, by omega⟩
  · have ek : n = k0 := by omega
    have hend : (((unitZ n).map (fun zs => VN zs.length zs)).map (· w.heap.size)).take k0 = (((unitZ n).map (fun zs => VN zs.length zs)).map (· w.heap.size)) := List.take_of_length_le (by simp [unitZ]; omega)
    refine wp_seq ?_
    refine wp_stmt_seq [.val (Is (.int .i64 k0)),
      .val (Is (.int .i64 (n : Nat))),
      .val (Is (.bool false))] [.inr 0] [.inl 2, .inr 0, .inr 1] follows S6 rfl (by kernel_rfl) ?_ ?_
    · refine ⟨⟨⟨trivial, ?_⟩, ?_⟩, ?_⟩
      · exact owe_move rfl (wants_all rfl) (Or.inl rfl) (opnd_slot 0 5 rfl (by kernel_rfl)) rfl
      · exact owe_move rfl (wants_all rfl) (Or.inl rfl) (opnd_slot 1 0 rfl (by kernel_rfl)) rfl
      · exact owe_bin rfl (wants_all rfl) rfl (opnd_op 0 12 (by kernel_rfl) rfl) (opnd_op 1 13 (by kernel_rfl) rfl) rfl (fun ρ w h1 h2 => by exact run_lss_int_f ρ _ _ _ w _ _ (by omega) h1 h2)
    intro B7 a7 W7 S7
    replace S7 : Sta w 38 [(4, (.row 36 1 k0 (CE 1 ((((unitZ n).map (fun zs => VN zs.length zs)).map (· w.heap.size)).take k0))))] [(14, (Is (.bool false))), (5, (Is (.int .i64 k0))), (0, (Is (.int .i64 (n : Nat))))] B7 a7 W7 := S7
    refine wp_cond_false (S7.bool 0 14 rfl) ?_
    refine wp_exit ?_
    refine thenX ?_
    refine thenX ?_
    refine inBlkE ?_
    refine thenN ?_
    obtain ⟨B8, S8⟩ : ∃ Bq, Sta w 38 [] [(4, ((MN n (unitZ n)) w.heap.size)), (14, (Is (.bool false))), (5, (Is (.int .i64 k0))), (0, (Is (.int .i64 (n : Nat))))] Bq a7 W7 := ⟨_, S7.freeze 0 rfl (by simp) (fun v w' xs ho hc => by rw [hend] at hc; rw [← ek] at ho; exact row_lf (by decide) v w' xs ho hc)⟩
    obtain ⟨a8, W8, e1, e2⟩ : ∃ a W, a7 = a ∧ W7 = W := ⟨_, _, rfl, rfl⟩
    rw [e1, e2] at S8 ⊢
    clear e1 e2
    refine wp_stmt_seq [.val ((MN n (unitZ n)) w.heap.size),
      .val ((MN n (unitZ n)) w.heap.size),
      .val (Is (.int .i64 0))] [] [.inl 1, .inl 2, .inr 0, .inr 1, .inr 2, .inr 3] follows S8 rfl (by kernel_rfl) ?_ ?_
    · refine ⟨⟨⟨trivial, ?_⟩, ?_⟩, ?_⟩
      · exact owe_move rfl (wants_all rfl) (Or.inl rfl) (opnd_slot 0 4 rfl (by kernel_rfl)) rfl
      · exact owe_move rfl (wants_all rfl) (Or.inr rfl) (opnd_op 0 37 (by kernel_rfl) rfl) rfl
      · exact owe_move rfl (wants_all rfl) (Or.inr rfl) (opnd_const _) rfl
    intro B9 a9 W9 S9
    replace S9 : Sta w 38 [] [(2, ((MN n (unitZ n)) w.heap.size)), (3, (Is (.int .i64 0))), (4, ((MN n (unitZ n)) w.heap.size)), (14, (Is (.bool false))), (5, (Is (.int .i64 k0))), (0, (Is (.int .i64 (n : Nat))))] B9 a9 W9 := S9
    refine wp_ret ?_
    exact end_two S9 rfl (res_tmp S9 0 2 rfl) (res_tmp S9 1 3 rfl)


def unitN (z : Int) : Nat := if 0 ≤ z ∧ z ≤ 64 then z.toNat else 0
def unitE (z : Int) : List (List Int) := if 0 ≤ z ∧ z ≤ 64 then unitZ z.toNat else []
def unitR (z : Int) : Int := if z < 0 then 1 else if 64 < z then 2 else 0

theorem h_unit (w : World) (z : Int) : Calls Try.prog 13 #[.int .i64 z] w (Gives (TWO (MN (unitN z) (unitE z)) (IS (.int .i64 (unitR z)))) w) := by
  by_cases h1 : z < 0
  · simp only [unitN, unitE, unitR, show ¬ (0 ≤ z ∧ z ≤ 64) from by omega, h1, if_true, if_false]
    exact give_two (unit_n w z h1) nil_mn' (fun _ _ _ h => h)
  · by_cases h2 : 64 < z
    · simp only [unitN, unitE, unitR, show ¬ (0 ≤ z ∧ z ≤ 64) from by omega, h1, h2, if_true, if_false]
      exact give_two (unit_l w z h2) nil_mn' (fun _ _ _ h => h)
    · simp only [unitN, unitE, unitR, show (0 ≤ z ∧ z ≤ 64) from by omega, h1, h2, if_true, if_false, and_self]
      obtain ⟨n, rfl⟩ : ∃ n : Nat, z = (n : Int) := ⟨z.toNat, by omega⟩
      rw [Int.toNat_natCast]
      exact unit_y w n (by omega)

theorem h_runit (w : World) (z : Int) : Calls Try.prog 14 #[.int .i64 z] w (Gives (TWO (MN (unitN z) (unitE z)) (IS (.int .i64 (unitR z)))) w) := by
  by_cases h1 : z < 0
  · simp only [unitN, unitE, unitR, show ¬ (0 ≤ z ∧ z ≤ 64) from by omega, h1, if_true, if_false]
    exact give_two (runit_n w z h1) nil_mn' (fun _ _ _ h => h)
  · by_cases h2 : 64 < z
    · simp only [unitN, unitE, unitR, show ¬ (0 ≤ z ∧ z ≤ 64) from by omega, h1, h2, if_true, if_false]
      exact give_two (runit_l w z h2) nil_mn' (fun _ _ _ h => h)
    · simp only [unitN, unitE, unitR, show (0 ≤ z ∧ z ≤ 64) from by omega, h1, h2, if_true, if_false, and_self]
      obtain ⟨n, rfl⟩ : ∃ n : Nat, z = (n : Int) := ⟨z.toNat, by omega⟩
      rw [Int.toNat_natCast]
      exact runit_y w n (by omega)

end Go.Proofs.Ytiehipnaklkhjaa

/-
  Lists one behind the other: what is appended is a whole list; a row that is grown ahead.
-/
namespace Go.Proofs.Ytiehipnaklkhjaa
open Go Go.RowKit Nt
set_option linter.unusedSimpArgs false
set_option linter.unusedVariables false
set_option maxRecDepth 20000

/-- The cells of a list that stays. -/
theorem ar_src {B : Nat → Prop} {w : World} {sz m : Nat} {φs : List Pr} {v : Value} (hz : 0 < sz) (hc : ∀ (i : Nat) φ, φs[i]? = some φ → Cel sz φ) (h : Has B w (Ar sz m φs) v) :
    ∃ p c us, v = .slice p m c ∧ us.length = m ∧ φs.length = m ∧ (∀ u ∈ us, Celv sz u) ∧ (p = none → m = 0 ∧ c = 0) ∧ (∀ ad, p = some ad → ∀ (j : Nat) x, (cellsOf us)[j]? = some x → w.cell? (ad.add j) = some x) ∧ ∀ w', Ev B w w' → ∀ (i : Nat) u φ, us[i]? = some u → φs[i]? = some φ → φ u w' := by
  obtain ⟨p, c, e, hl, ⟨h1, h2, h3⟩, ha⟩ := id h.now
  have each : ∀ i, ∃ u : Value, ∀ φ, φs[i]? = some φ → (∃ b o, p = some ⟨b, o, none⟩ ∧ ∀ (j : Nat) x, u.cells[j]? = some x → w.cell? ⟨b, o + sz * i + j, none⟩ = some x) ∧ Celv sz u ∧ Has B w φ u := fun i => by
    cases hφ : φs[i]? with
    | none => exact ⟨undef, fun φ h => by cases h⟩
    | some φ =>
      obtain ⟨b, o, c', e', hlt, hat⟩ := ar_at h hφ
      obtain ⟨b', o', u, e2, hcells, hcv, hhas⟩ := at_fix hz (hc i φ hφ) hat
      rw [e] at e'
      cases e'
      cases e2
      refine ⟨u, fun φ' h' => ?_⟩
      cases h'
      exact ⟨⟨b, o, rfl, hcells⟩, hcv, hhas⟩
  obtain ⟨F, hF⟩ : ∃ F : Nat → Value, ∀ i φ, φs[i]? = some φ → (∃ b o, p = some ⟨b, o, none⟩ ∧ ∀ (j : Nat) x, (F i).cells[j]? = some x → w.cell? ⟨b, o + sz * i + j, none⟩ = some x) ∧ Celv sz (F i) ∧ Has B w φ (F i) := ⟨fun i => Classical.choose (each i), fun i => Classical.choose_spec (each i)⟩
  have hget : ∀ (i : Nat) u, ((List.range m).map F)[i]? = some u → i < m ∧ u = F i := fun i u hu => by
    obtain ⟨j, hj, rfl⟩ := map_get hu
    have hi : i < m := by simpa using (List.getElem?_eq_some_iff.1 hj).1
    rw [List.getElem?_range hi] at hj
    cases hj
    exact ⟨hi, rfl⟩
  have hphi : ∀ i, i < m → ∃ φ, φs[i]? = some φ := fun i hi => ⟨φs[i]'(by omega), List.getElem?_eq_getElem _⟩
  have hcv : ∀ u ∈ (List.range m).map F, Celv sz u := fun u hu => by
    obtain ⟨i, hi, rfl⟩ := List.mem_iff_getElem.1 hu
    obtain ⟨hlt, e'⟩ := hget i _ (List.getElem?_eq_getElem hi)
    rw [e']
    obtain ⟨φ, hφ⟩ := hphi i hlt
    exact (hF i φ hφ).2.1
  refine ⟨p, c, (List.range m).map F, e, by simp, hl, hcv, fun hp => ⟨?_, h3 hp⟩, fun ad had j x hx => ?_, fun w' ev i u φ hu hφ => ?_⟩
  · have := h3 hp
    omega
  · have hlen := cellsOf_len hcv
    have hj : j < m * sz := by
      have := (List.getElem?_eq_some_iff.1 hx).1
      rw [hlen] at this
      simpa using this
    have hq : j / sz < m := Nat.div_lt_of_lt_mul (by rw [Nat.mul_comm]; exact hj)
    have hr : j % sz < sz := Nat.mod_lt _ hz
    have hjj : j = (j / sz) * sz + j % sz := by rw [Nat.mul_comm]; exact (Nat.div_add_mod j sz).symm
    obtain ⟨φ, hφ⟩ := hphi _ hq
    obtain ⟨⟨b, o, hp, hcl⟩, _, _⟩ := hF _ φ hφ
    rw [hp] at had
    cases had
    have hg := cellsOf_get hcv (k := j / sz) (u := F (j / sz)) (by rw [List.getElem?_map, List.getElem?_range hq]; rfl) (j % sz) hr
    rw [← hjj, hx] at hg
    rw [addr_add, show o + j = o + sz * (j / sz) + j % sz from by rw [Nat.mul_comm sz, Nat.add_assoc, ← hjj]]
    exact hcl _ x hg.symm
  · obtain ⟨hlt, rfl⟩ := hget i u hu
    exact (hF i φ hφ).2.2 w' ev
section
variable {ops : Array Oper} {l : List Kd} {bx : Bxs} {sl : List (Tmp × Pr)} {i : Nat} {o : Oper} {Q : Exit → Act → World → Prop} {a0 : Act} {n0 : Nat} {w0 : World}
/-- A whole list is appended. -/
theorem owe_appendL {x y : Operand} {T t k e size bytes n m : Nat} {φs φs2 : List Pr} (ho : ops[i]? = some o) (hw : Wants ops l bx sl i o) (hop : o.op = .call { callee := .builtin .append, args := #[x, y], argTypes := #[T, T] })
    (hx : Opnd ops l bx sl i x (Is (a0.eval (.tmp t)))) (hb : bx[k]? = some (t, .row e size n (CE size φs))) (hn : unturned ops l i (.inl t) = true) (hy : Opnd ops l bx sl i y (Ar size m φs2)) (hc2 : ∀ (i : Nat) φ, φs2[i]? = some φ → Cel size φ) (hE : EInf e size bytes) (hT : Try.prog.underlying T = some (.slice e))
    (hl : n + m ≤ maxLen ∧ (n + m) * bytes ≤ 140737488355328) (hk : kdAt l i = .mov t (.row e size (n + m) (CE size (φs ++ φs2)))) : Owed Try.prog ops Q l bx sl a0 n0 w0 i := fun vs B a w c o' ho' => by
  obtain rfl : o = o' := Option.some.inj (ho.symm.trans ho')
  have hxv : a.eval x = a0.eval (.tmp t) := (hx a0 n0 w0 vs B a w c).now
  obtain ⟨xs, hown, hB, hχ⟩ := c.box t _ (List.mem_of_getElem? hb) hn
  obtain ⟨⟨i0, z, hi, hz, hsz, hby, hzs⟩, hpos⟩ := id hE
  obtain ⟨p, c', us, e1, hul, hfl, hcv, hnil, hcells, hall⟩ := ar_src hpos hc2 (hy a0 n0 w0 vs B a w c)
  have hlo : w0.heap.size ≤ w.heap.size := c.lo
  have hys : (cellsOf us).length = m * size := by rw [cellsOf_len hcv, hul]
  have hvb : vblock (a0.eval (.tmp t)) = (a0.eval (.tmp t)).ownBlock := vblock_own _ (fun ad ea => by
    rcases hown.2 with ⟨e', _⟩ | ⟨g', cap, cur, e', _⟩ <;> rw [e'] at ea <;> cases ea)
  have hone : ∀ u ∈ cellsOf us, u.oneCell' = true := fun u hu => by
    obtain ⟨q, hq, hm⟩ := List.mem_flatMap.1 hu
    have := (hcv q hq).one
    rw [Array.all_eq_true_iff_forall_mem] at this
    exact this u (by simpa using hm)
  obtain ⟨v', w', hr, o1, o2, hwh⟩ : ∃ v' w', (Builtin.append_ #[T, T] o.type #[a0.eval (.tmp t), .slice p m c']).run Try.prog w = .ok v' w' ∧ w'.ownsRow w0.heap.size e size v' (n + m) (xs ++ cellsOf us) ∧ w.grownBy w' (a0.eval (.tmp t)).ownBlock ∧ ∀ b, vblock v' = some b → vblock (a0.eval (.tmp t)) = some b ∨ (w.heap.size ≤ b ∧ b < w'.heap.size) := by
    cases hp : p with
    | none =>
      obtain ⟨rfl, rfl⟩ := hnil hp
      have hu0 : us = [] := List.length_eq_zero_iff.1 hul
      subst hu0
      exact ⟨_, w, run_append_owned_none (P := Try.prog) w w0.heap.size T o.type e i0 size hT hi _ n xs hown, by simpa [cellsOf] using hown, ⟨rfl, rfl, rfl, Nat.le_refl _, fun _ _ _ => rfl⟩, fun b hb' => Or.inl hb'⟩
    | some ad =>
      obtain ⟨v', w', hr, o1, o2, _⟩ := run_append_own (P := Try.prog) w w0.heap.size T o.type e i0 z size bytes hT hi hz hsz hby hzs hpos _ n xs hown ad m c' (cellsOf us) hys (hcells ad hp) hone hl.1 hl.2 hlo
      exact ⟨v', w', hr, o1, o2, append_where hE hT hown hys (hcells ad hp) hone hl.1 hl.2 hr o1⟩
  have hc := chg_grown o2 hvb
  simp only [wpOp, ho]
  rw [if_pos (hw a0 n0 w0 vs B a w c)]
  refine Or.inl ?_
  unfold Oper.wp
  have h : (execOp a.eval o).run Try.prog w = .ok (.value v') w' := by
    unfold execOp
    rw [hop]
    simp only [resolve, invoke, builtin, Sem.run_bind, Sem.run_pure, Result.andThen_ok, List.map_toArray, List.map_cons, List.map_nil, hxv, e1, hr]
  rw [h, Oper.upon_value]
  refine ⟨v', rfl, ?_⟩
  rw [hk]
  have ev : Ev B w w' := ⟨hc.os, hc.tape, hc.output, hc.size, fun k hk' hn' => hc.block k hk' (fun hs => hn' (hB k hs))⟩
  have hsub : ∀ k, k < w.heap.size → (B k ∨ vblock v' = some k) → B k := fun k hk' h' => by
    rcases h' with h' | h'
    · exact h'
    · rcases hwh k h' with h'' | h''
      · exact hB k h''
      · omega
  exact out_mov (List.mem_of_getElem? hb) rfl rfl hc hwh ⟨xs ++ cellsOf us, o1, fun b hb' => Or.inr hb', fun w'' e'' => ce_append _ _ _ (hχ _ (ev.back hsub e'')) ⟨us, rfl, by rw [hul, hfl], hcv, hall _ (ev.back hsub e'')⟩⟩
/-- A call whose result is a row of the caller's own. -/
theorem owe_callR {f : FuncId} {x y : Operand} {ts : Array TypeId} {E sz : Nat} {u v : Value} (ho : ops[i]? = some o) (hw : Wants ops l bx sl i o) (hop : o.op = .call { callee := .value (.func f), args := #[x, y], argTypes := ts }) (hx : Opnd ops l bx sl i x (Is u)) (hy : Opnd ops l bx sl i y (Is v)) (hk : kdAt l i = .new (.row E sz 0 (CE sz [])))
    (hcf : ∀ args w, (callFunc f args).run Try.prog w = .ok (.enter f args) w) (C : ∀ w, Calls Try.prog f #[u, v] w fun e w' => ∃ r, e = .returned r ∧ Below w.heap.size w w' ∧ w'.ownsRow w.heap.size E sz r 0 []) : Owed Try.prog ops Q l bx sl a0 n0 w0 i := fun vs B a w c o' ho' => by
  obtain rfl : o = o' := Option.some.inj (ho.symm.trans ho')
  have hx' : a.eval x = u := (hx a0 n0 w0 vs B a w c).now
  have hy' : a.eval y = v := (hy a0 n0 w0 vs B a w c).now
  have hr : (execOp a.eval o).run Try.prog w = .ok (.enter f #[u, v]) w := by
    unfold execOp
    rw [hop]
    have hf : a.eval (.func f) = .func (.func f) #[] #[] := rfl
    generalize a.eval = ρ at hf hx' hy'
    subst hx'
    subst hy'
    go_simp
  simp only [wpOp, ho]
  rw [if_pos (hw a0 n0 w0 vs B a w c)]
  refine Or.inl ?_
  unfold Oper.wp
  rw [hr, Oper.upon_enter]
  refine (C w).mono ?_
  rintro e w' ⟨r, rfl, hb, hown⟩
  refine ⟨r, rfl, ?_⟩
  rw [hk]
  have hset : ∀ b, vblock r = some b → w.heap.size ≤ b ∧ b < w'.heap.size := fun b hb' => by
    rcases hown.2 with ⟨rfl, _⟩ | ⟨g, cap, cur, rfl, hg0, hg, _⟩
    · simp [vblock] at hb'
    · simp [vblock] at hb'
      subst hb'
      exact ⟨hg0, (Array.getElem?_eq_some_iff.1 hg).1⟩
  refine ⟨hb, hset, [], ⟨hown.1, ?_⟩, fun b hb' => Or.inr hb', fun w'' _ => ce_nil w''⟩
  rcases hown.2 with h1 | ⟨g, cap, cur, h1, hg0, h2⟩
  · exact Or.inl h1
  · exact Or.inr ⟨g, cap, cur, h1, Nat.le_trans c.lo hg0, h2⟩
end
/-! slices.Grow of nothing. -/
set_option maxHeartbeats 2000000 in
theorem grow_0 (w : World) : Calls Try.prog 88 #[.slice none 0 0, .int .i64 0] w fun e w' => e = .returned (.slice none 0 0) ∧ w' = w := by
  go_enter Try.func88, Try.ntmps88
  go_wp2
  go_ret
  exact ⟨rfl, rfl⟩
set_option maxHeartbeats 4000000 in
theorem grow_y (w : World) (n : Nat) (h0 : 0 < n) (hb : n * 32 ≤ 140737488355328) : Calls Try.prog 88 #[.slice none 0 0, .int .i64 (n : Nat)] w fun e w' =>
    e = .returned (.slice (some ⟨w.heap.size, 0, none⟩) 0 (grownCap w n 0 39)) ∧ w' = w.drew.alloc (.cells (Builtin.zeroCells (Value.agg #[.bool false, .slice none 0 0]).cells n ++ Builtin.zeroCells (Value.agg #[.bool false, .slice none 0 0]).cells (grownCap w n 0 39 - n)) 39) := by
  obtain ⟨i0, hi, hz0, hz1, hz2⟩ := info_parts infoInt
  have hrz : ∀ ty, (Builtin.append_ #[36, 3] ty #[.slice none 0 0, .int .i64 (n : Int)]).run Try.prog w =
      .ok (.slice (some ⟨w.heap.size, 0, none⟩) n (grownCap w n 0 39)) (w.drew.alloc (.cells (Builtin.zeroCells (Value.agg #[.bool false, .slice none 0 0]).cells n ++ Builtin.zeroCells (Value.agg #[.bool false, .slice none 0 0]).cells (grownCap w n 0 39 - n)) 39)) := fun ty => by
    have h := Lib.run_append_grow_zeros (P := Try.prog) w 36 3 ty 39 i0 _ .i64 .i64 Try.underlying36 Try.underlying3 hi hz0 none 0 0 [] (run_firstCells_none w.drew i0.size 0 0 0) n h0 (by rw [hz1]; decide) (by omega) (by omega) (by rw [hz2]; omega) (by rw [hz2]; exact growslice_fits (by omega) (by omega))
    simpa using h
  have hGn : n ≤ grownCap w n 0 39 := grownCap_ge w _ _ _
  have hGm := grownCap_le_maxLen w n 0 39 (by unfold maxLen; omega)
  obtain ⟨G, hG⟩ : ∃ G, G = grownCap w n 0 39 := ⟨_, rfl⟩
  rw [← hG] at hrz hGn hGm ⊢
  have hG63 : G ≤ 9223372036854775807 := by unfold maxLen at hGm; omega
  have h1 : ¬ ((n : Int) < 0) := by omega
  have h4 : (n : Int) > 0 := by omega
  have h3 : IntKind.i64.wrap (n : Int) = (n : Int) := by rw [IntKind.wrap_i64]; omega
  clear hG hGm hi hz0 hz1 hz2 hb h0
  go_enter Try.func88, Try.ntmps88
  go_wp2_with (at_builtin; refine Lib.wpList_append_run _ rfl _ _ _ _ rfl _ _ rfl rfl _ _ (hrz _) ?_)
  all_goals (go_ret; exact ⟨rfl, rfl⟩)
theorem grow_c (w : World) (n : Nat) (hb : n * 32 ≤ 140737488355328) : Calls Try.prog 88 #[.slice none 0 0, .int .i64 (n : Nat)] w fun e w' => ∃ r, e = .returned r ∧ Below w.heap.size w w' ∧ w'.ownsRow w.heap.size 39 2 r 0 [] := by
  rcases Nat.eq_zero_or_pos n with rfl | h0
  · refine (grow_0 w).mono ?_
    rintro e w' ⟨rfl, rfl⟩
    exact ⟨_, rfl, Below.refl _ _, World.ownsRow_nil _ _ _ _⟩
  · refine (grow_y w n h0 hb).mono ?_
    rintro e w' ⟨rfl, rfl⟩
    have hGn : n ≤ grownCap w n 0 39 := grownCap_ge w _ _ _
    have hGm := grownCap_le_maxLen w n 0 39 (by unfold maxLen; omega)
    refine ⟨_, rfl, ⟨rfl, rfl, rfl, by simp, fun k hk => heap_alloc_old' w.drew _ k hk⟩, by simp, Or.inr ⟨w.heap.size, _, _, rfl, Nat.le_refl _, heap_alloc_new w.drew _, Nat.zero_le _, hGm, ?_, by simp⟩⟩
    simp only [Builtin.zeroCells, Array.size_append]
    simp [Value.cells]
    omega
end Go.Proofs.Ytiehipnaklkhjaa

/-
  Bits: mat's and the document's.
-/
namespace Go.Proofs.Ytiehipnaklkhjaa
open Go Go.RowKit Nt
set_option linter.unusedSimpArgs false
set_option linter.unusedVariables false
set_option maxRecDepth 20000


theorem Sta.change {w0 W : World} {n : Nat} {bx : Bxs} {sl : List (Tmp × Pr)} {B : Nat → Prop} {a : Act} (S : Sta w0 n bx sl B a W) (k : Nat) {t : Nat} {φ ψ : Pr} (h : sl[k]? = some (t, φ)) (hi : ∀ v w, φ v w → ψ v w) : Sta w0 n bx (sl.set k (t, ψ)) B a W :=
  ⟨S.ent, S.bnd, S.siz, S.dfr, S.box, S.sep, fun x hx => by
    rcases List.mem_or_eq_of_mem_set hx with h1 | h1
    · exact S.slt x h1
    · subst h1
      exact fun w' e => hi _ _ (S.slt _ (List.mem_of_getElem? h) w' e)⟩
section
variable {ops : Array Oper} {l : List Kd} {bx : Bxs} {sl : List (Tmp × Pr)} {i : Nat} {o : Oper} {Q : Exit → Act → World → Prop} {a0 : Act} {n : Nat} {w0 : World}
theorem owe_max {x y : Operand} {T : TypeId} {u v r : Value} (ho : ops[i]? = some o) (hw : Wants ops l bx sl i o) (hop : o.op = .call { callee := .builtin .max, args := #[x, y], argTypes := #[T, T] }) (hx : Opnd ops l bx sl i x (Is u)) (hy : Opnd ops l bx sl i y (Is v)) (hk : kdAt l i = .val (Is r))
    (hr : ∀ (ρ : Operand → Value) (w : World), ρ x = u → ρ y = v → (execOp ρ { o with op := .call { callee := .builtin .max, args := #[x, y], argTypes := #[T, T] } }).run Try.prog w = .ok (.value r) w) : Owed Try.prog ops Q l bx sl a0 n w0 i :=
  owe_is ho hw hk fun vs B a w c => by
    have := hr a.eval w (hx a0 n w0 vs B a w c).now (hy a0 n w0 vs B a w c).now
    rw [← this]
    unfold execOp
    rw [hop]
end
theorem run_max_a (ρ : Operand → Value) (o : Oper) (x y : Operand) (w : World) (a b : Int) (h : a ≤ b) (h1 : ρ x = .int .i64 a) (h2 : ρ y = .int .i64 b) : (execOp ρ { o with op := .call { callee := .builtin .max, args := #[x, y], argTypes := #[3, 3] } }).run Try.prog w = .ok (.value (.int .i64 b)) w := by
  unfold execOp
  go_simp
  exact Int.max_eq_right h
theorem run_max_b (ρ : Operand → Value) (o : Oper) (x y : Operand) (w : World) (a b : Int) (h : b ≤ a) (h1 : ρ x = .int .i64 a) (h2 : ρ y = .int .i64 b) : (execOp ρ { o with op := .call { callee := .builtin .max, args := #[x, y], argTypes := #[3, 3] } }).run Try.prog w = .ok (.value (.int .i64 a)) w := by
  unfold execOp
  go_simp
  exact Int.max_eq_left h
theorem run_max_int (ρ : Operand → Value) (o : Oper) (x y : Operand) (w : World) (a b r : Int) (h : (a ≤ b ∧ r = b) ∨ (b ≤ a ∧ r = a)) (h1 : ρ x = .int .i64 a) (h2 : ρ y = .int .i64 b) : (execOp ρ { o with op := .call { callee := .builtin .max, args := #[x, y], argTypes := #[3, 3] } }).run Try.prog w = .ok (.value (.int .i64 r)) w := by
  rcases h with ⟨h, rfl⟩ | ⟨h, rfl⟩
  · exact run_max_a ρ o x y w a _ h h1 h2
  · exact run_max_b ρ o x y w _ b h h1 h2
theorem g_rbits1 {x k : Nat} (hk : k ≤ 288230376151711743) : ∀ w u, Nv x k u w → Calls Try.prog 83 #[u] w (Gives (IS (.int .i64 (Go.bitLen x : Nat))) w) := by
  rintro w u ⟨p, n, c, xs, rfl, h, rfl, hn⟩
  refine (rbits_c w p n c xs h (by omega)).mono ?_
  rintro e w' ⟨rfl, rfl⟩
  exact ⟨_, rfl, Below.refl _ _, rfl⟩
def mx (l : List Nat) : Nat := l.foldl max 0
theorem mx_take {l : List Nat} {k x : Nat} (h : l[k]? = some x) : mx (l.take (k + 1)) = max (mx (l.take k)) x := by
  rw [List.take_add_one, h]
  simp [mx, List.foldl_append]
def bitsR (r : List Int) : List Nat := r.map (fun z => Go.bitLen z.natAbs)
def bitsM (A : List (List Int)) : List Nat := A.map (fun r => mx (bitsR r))

set_option maxHeartbeats 400000 in
theorem zbits_w (w : World) (s : Bool) (p : Option Addr) (n c : Nat) (xs : List Nat) (h : Sl w p n c xs) (hn : n ≤ 1048576) :
    Calls Try.prog 48 #[.agg #[.bool s, .slice p n c]] w (Gives (IS (.int .i64 (Go.bitLen (val xs) : Nat))) w) := by
  refine calls_sta (sl := [(0, (Zx s p n c xs))]) Try.func48 rfl Try.ntmps48 (by simp) (args_cons rfl (zx_has h) args_nil) ?_
  intro a0 S0
  refine wp_stmt_seq [.new (.box 39 (Zx s p n c xs)),
      .val (Is (.int .i64 0))] [.inl 0] [.inl 1] follows S0 rfl (by kernel_rfl) ?_ ?_
  · refine ⟨⟨trivial, ?_⟩, ?_⟩
    · exact owe_box rfl (wants_all rfl) rfl (opnd_slot 0 0 rfl (by kernel_rfl)) rfl (fun ρ w h => box_int shp_zx ρ _ _ w h)
    · exact owe_move rfl (wants_all rfl) (Or.inr rfl) (opnd_const _) rfl
  intro B1 a1 W1 S1
  replace S1 : Sta w 6 [(1, (.box 39 (Zx s p n c xs)))] [(2, (Is (.int .i64 0)))] B1 a1 W1 := S1
  refine wp_stmt_seq [.val (Part a1 1 1),
      .val (Nx p n c xs),
      .val (Is (.int .i64 (Go.bitLen (val xs) : Nat))),
      .val (Is (.int .i64 (Go.bitLen (val xs) : Nat)))] [.inr 0] [.inl 3] follows S1 rfl (by kernel_rfl) ?_ ?_
  · refine ⟨⟨⟨⟨trivial, ?_⟩, ?_⟩, ?_⟩, ?_⟩
    · exact owe_part rfl (wants_all rfl) rfl (k := 0) rfl (by kernel_rfl) rfl (fun ρ w b h => part_int1 ρ _ _ w b 0 h)
    · exact owe_pload rfl (wants_all rfl) rfl (opnd_op 0 3 (by kernel_rfl) rfl) (k := 0) rfl (by kernel_rfl) rfl (fun ρ w b u h1 h2 h3 => pload_mag zx_mag ρ _ _ w b u h1 h2 h3)
    · exact owe_call1 rfl (wants_all rfl) rfl (opnd_op 1 4 (by kernel_rfl) rfl) (fresh_is _) rfl (fun args w => by go_simp) (fun w u h1 => g_bits (by omega) w u ((nx_nv (Nat.le_refl _)) _ _ h1))
    · exact owe_move rfl (wants_all rfl) (Or.inr rfl) (opnd_op 2 5 (by kernel_rfl) rfl) rfl
  intro B2 a2 W2 S2
  replace S2 : Sta w 6 [(1, (.box 39 (Zx s p n c xs)))] [(2, (Is (.int .i64 (Go.bitLen (val xs) : Nat))))] B2 a2 W2 := S2
  refine wp_ret ?_
  exact end_one S2 rfl (res_tmp S2 0 2 rfl)

set_option maxHeartbeats 400000 in
theorem rbits_w (w : World) (s : Bool) (p : Option Addr) (n c : Nat) (xs : List Nat) (h : Sl w p n c xs) (hn : n ≤ 1048576) :
    Calls Try.prog 49 #[.agg #[.bool s, .slice p n c]] w (Gives (IS (.int .i64 (Go.bitLen (val xs) : Nat))) w) := by
  refine calls_sta (sl := [(0, (Zx s p n c xs))]) Try.func49 rfl Try.ntmps49 (by simp) (args_cons rfl (zx_has h) args_nil) ?_
  intro a0 S0
  refine wp_stmt_seq [.new (.box 39 (Zx s p n c xs)),
      .val (Is (.int .i64 0))] [.inl 0] [.inl 1] follows S0 rfl (by kernel_rfl) ?_ ?_
  · refine ⟨⟨trivial, ?_⟩, ?_⟩
    · exact owe_box rfl (wants_all rfl) rfl (opnd_slot 0 0 rfl (by kernel_rfl)) rfl (fun ρ w h => box_int shp_zx ρ _ _ w h)
    · exact owe_move rfl (wants_all rfl) (Or.inr rfl) (opnd_const _) rfl
  intro B1 a1 W1 S1
  replace S1 : Sta w 6 [(1, (.box 39 (Zx s p n c xs)))] [(2, (Is (.int .i64 0)))] B1 a1 W1 := S1
  refine wp_stmt_seq [.val (Part a1 1 1),
      .val (Nx p n c xs),
      .val (Is (.int .i64 (Go.bitLen (val xs) : Nat))),
      .val (Is (.int .i64 (Go.bitLen (val xs) : Nat)))] [.inr 0] [.inl 3] follows S1 rfl (by kernel_rfl) ?_ ?_
  · refine ⟨⟨⟨⟨trivial, ?_⟩, ?_⟩, ?_⟩, ?_⟩
    · exact owe_part rfl (wants_all rfl) rfl (k := 0) rfl (by kernel_rfl) rfl (fun ρ w b h => part_int1 ρ _ _ w b 0 h)
    · exact owe_pload rfl (wants_all rfl) rfl (opnd_op 0 3 (by kernel_rfl) rfl) (k := 0) rfl (by kernel_rfl) rfl (fun ρ w b u h1 h2 h3 => pload_mag zx_mag ρ _ _ w b u h1 h2 h3)
    · exact owe_call1 rfl (wants_all rfl) rfl (opnd_op 1 4 (by kernel_rfl) rfl) (fresh_is _) rfl (fun args w => by go_simp) (fun w u h1 => g_rbits1 (by omega) w u ((nx_nv (Nat.le_refl _)) _ _ h1))
    · exact owe_move rfl (wants_all rfl) (Or.inr rfl) (opnd_op 2 5 (by kernel_rfl) rfl) rfl
  intro B2 a2 W2 S2
  replace S2 : Sta w 6 [(1, (.box 39 (Zx s p n c xs)))] [(2, (Is (.int .i64 (Go.bitLen (val xs) : Nat))))] B2 a2 W2 := S2
  refine wp_ret ?_
  exact end_one S2 rfl (res_tmp S2 0 2 rfl)

theorem g_zbits {A : Int} {k : Nat} (hk : k ≤ 1048576) : ∀ w u, Zv A k u w → Calls Try.prog 48 #[u] w (Gives (IS (.int .i64 (Go.bitLen A.natAbs : Nat))) w) := by
  rintro w u ⟨s, p, n, c, xs, rfl, h, rfl, hn⟩
  rw [sg_abs]
  exact zbits_w w s p n c xs h (by omega)

theorem g_rbits {A : Int} {k : Nat} (hk : k ≤ 1048576) : ∀ w u, Zv A k u w → Calls Try.prog 49 #[u] w (Gives (IS (.int .i64 (Go.bitLen A.natAbs : Nat))) w) := by
  rintro w u ⟨s, p, n, c, xs, rfl, h, rfl, hn⟩
  rw [sg_abs]
  exact rbits_w w s p n c xs h (by omega)

set_option maxHeartbeats 400000 in
theorem mbits_w (w : World) (u : Value) (n k : Nat) (A : List (List Int)) (h : Hs w (Mv n A k) u) (hn : n ≤ 1048576) (hs : k ≤ 1048576) (hL : Ml A 1048576) :
    Calls Try.prog 11 #[u] w (Gives (IS (.int .i64 (mx (bitsM A) : Nat))) w) := by
  have hA := mv_len h.now
  refine calls_sta (sl := [(0, (Mv n A k))]) Try.func11 rfl Try.ntmps11 (by simp) (args_cons rfl (h) args_nil) ?_
  intro a0 S0
  refine wp_stmt_seq [.val (Is (.int .i64 0))] [] [.inl 0, .inr 0] follows S0 rfl (by kernel_rfl) ?_ ?_
  · refine ⟨trivial, ?_⟩
    · exact owe_move rfl (wants_all rfl) (Or.inr rfl) (opnd_const _) rfl
  intro B1 a1 W1 S1
  replace S1 : Sta w 27 [] [(2, (Is (.int .i64 0))), (0, (Mv n A k))] B1 a1 W1 := S1
  refine wp_stmt_seq [.val (Is (.int .i64 0))] [] [.inl 0, .inr 0, .inr 1] follows S1 rfl (by kernel_rfl) ?_ ?_
  · refine ⟨trivial, ?_⟩
    · exact owe_move rfl (wants_all rfl) (Or.inr rfl) (opnd_const _) rfl
  intro B2 a2 W2 S2
  replace S2 : Sta w 27 [] [(3, (Is (.int .i64 0))), (2, (Is (.int .i64 0))), (0, (Mv n A k))] B2 a2 W2 := S2
  refine wp_seq ?_
  refine wp_stmt_seq [.val (Mv n A k),
      .val (Is (.int .i64 (n : Nat))),
      .val (Is (.int .i64 0))] [] [.inl 0, .inl 1, .inl 2, .inr 0, .inr 1] follows S2 rfl (by kernel_rfl) ?_ ?_
  · refine ⟨⟨⟨trivial, ?_⟩, ?_⟩, ?_⟩
    · exact owe_move rfl (wants_all rfl) (Or.inl rfl) (opnd_slot 2 0 rfl (by kernel_rfl)) rfl
    · exact owe_len rfl (wants_all rfl) rfl (opnd_op 0 8 (by kernel_rfl) rfl) ar_len Try.underlying22 rfl
    · exact owe_move rfl (wants_all rfl) (Or.inl rfl) (opnd_const _) rfl
  intro B3 a3 W3 S3
  replace S3 : Sta w 27 [] [(8, (Mv n A k)), (9, (Is (.int .i64 (n : Nat)))), (10, (Is (.int .i64 0))), (3, (Is (.int .i64 0))), (2, (Is (.int .i64 0)))] B3 a3 W3 := S3
  refine wp_block ?_
  replace S3 : Sta w 27 [] [(8, (Mv n A k)), (9, (Is (.int .i64 (n : Nat)))), (10, (Is (.int .i64 0))), (3, (Is (.int .i64 ((mx ((bitsM A).take 0) : Nat) : Int)))), (2, (Is (.int .i64 0)))] B3 a3 W3 := S3.change 3 rfl (fun v w e => e)
  refine wp_loop_ghost (fun (k0 : Nat) a W => (k0 ≤ n) ∧ ∃ Bq, Sta w 27 [] [(8, (Mv n A k)), (9, (Is (.int .i64 (n : Nat)))), (10, (Is (.int .i64 k0))), (3, (Is (.int .i64 ((mx ((bitsM A).take k0) : Nat) : Int))))] Bq a W) (fun (k0 : Nat) => n - k0) ?_ 0 ⟨Nat.zero_le _, B3, S3.sub [] [0, 1, 2, 3]⟩
  rintro k0 a4 W4 ⟨hcond, B4, S4⟩
  by_cases hlt : k0 < n
  · obtain ⟨r, hr⟩ : ∃ r, A[k0]? = some r := ⟨A[k0]'(by omega), List.getElem?_eq_getElem _⟩
    have hrl := hL k0 r hr
    have hrow := map_get' (fun zs : List Int => Vv zs.length zs k) hr
    have hmo := mx_take (l := bitsM A) (map_get' (fun r => mx (bitsR r)) hr)
    have hm0 : mx ((bitsR r).take 0) = 0 := rfl
    refine wp_stmt_seq [.val (Is (.bool true))] [] [.inl 0, .inr 0, .inr 1, .inr 2, .inr 3] follows S4 rfl (by kernel_rfl) ?_ ?_
    · refine ⟨trivial, ?_⟩
      · exact owe_bin rfl (wants_all rfl) rfl (opnd_slot 2 10 rfl (by kernel_rfl)) (opnd_slot 1 9 rfl (by kernel_rfl)) rfl (fun ρ w h1 h2 => by exact run_lss_int_t ρ _ _ _ w _ _ (by omega) h1 h2)
    intro B5 a5 W5 S5
    replace S5 : Sta w 27 [] [(11, (Is (.bool true))), (8, (Mv n A k)), (9, (Is (.int .i64 (n : Nat)))), (10, (Is (.int .i64 k0))), (3, (Is (.int .i64 ((mx ((bitsM A).take k0) : Nat) : Int))))] B5 a5 W5 := S5
    refine wp_seq ?_
    refine wp_cond_true (S5.bool 0 11 rfl) ?_
    refine wp_skip ?_
    refine thenN ?_
    refine wp_seq ?_
    refine wp_block ?_
    refine wp_stmt_seq [.val (AtE 1 (Vv (r.length) r k)),
      .val (Vv (r.length) r k),
      .val (Vv (r.length) r k)] [] [.inl 2, .inr 0, .inr 1, .inr 2, .inr 3, .inr 4] follows S5 rfl (by kernel_rfl) ?_ ?_
    · refine ⟨⟨⟨trivial, ?_⟩, ?_⟩, ?_⟩
      · exact owe_aindex rfl (wants_all rfl) rfl idx_rows (opnd_slot 1 8 rfl (by kernel_rfl)) (opnd_slot 3 10 rfl (by kernel_rfl)) hrow rfl
      · exact owe_aload rfl (wants_all rfl) rfl ldr_row1 (by decide) cel_vv (opnd_op 0 12 (by kernel_rfl) rfl) rfl
      · exact owe_move rfl (wants_all rfl) (Or.inr rfl) (opnd_op 1 13 (by kernel_rfl) rfl) rfl
    intro B6 a6 W6 S6
    replace S6 : Sta w 27 [] [(5, (Vv (r.length) r k)), (11, (Is (.bool true))), (8, (Mv n A k)), (9, (Is (.int .i64 (n : Nat)))), (10, (Is (.int .i64 k0))), (3, (Is (.int .i64 ((mx ((bitsM A).take k0) : Nat) : Int))))] B6 a6 W6 := S6
    refine wp_stmt_seq [.val (Vv (r.length) r k),
      .val (Is (.int .i64 (r.length : Nat))),
      .val (Is (.int .i64 0))] [] [.inl 0, .inl 1, .inl 2, .inr 1, .inr 2, .inr 3, .inr 4, .inr 5] follows S6 rfl (by kernel_rfl) ?_ ?_
    · refine ⟨⟨⟨trivial, ?_⟩, ?_⟩, ?_⟩
      · exact owe_move rfl (wants_all rfl) (Or.inl rfl) (opnd_slot 0 5 rfl (by kernel_rfl)) rfl
      · exact owe_len rfl (wants_all rfl) rfl (opnd_op 0 14 (by kernel_rfl) rfl) ar_len Try.underlying36 rfl
      · exact owe_move rfl (wants_all rfl) (Or.inl rfl) (opnd_const _) rfl
    intro B7 a7 W7 S7
    replace S7 : Sta w 27 [] [(14, (Vv (r.length) r k)), (15, (Is (.int .i64 (r.length : Nat)))), (16, (Is (.int .i64 0))), (11, (Is (.bool true))), (8, (Mv n A k)), (9, (Is (.int .i64 (n : Nat)))), (10, (Is (.int .i64 k0))), (3, (Is (.int .i64 ((mx ((bitsM A).take k0) : Nat) : Int))))] B7 a7 W7 := S7
    refine wp_block ?_
    replace S7 : Sta w 27 [] [(14, (Vv (r.length) r k)), (15, (Is (.int .i64 (r.length : Nat)))), (16, (Is (.int .i64 0))), (11, (Is (.bool true))), (8, (Mv n A k)), (9, (Is (.int .i64 (n : Nat)))), (10, (Is (.int .i64 k0))), (3, (Is (.int .i64 ((max (mx ((bitsM A).take k0)) (mx ((bitsR r).take 0)) : Nat) : Int))))] B7 a7 W7 := S7.change 7 rfl (fun v w e => by show v = _; rw [show v = _ from e, hm0, Nat.max_eq_left (Nat.zero_le _)])
    refine wp_loop_ghost (fun (k1 : Nat) a W => (k1 ≤ r.length) ∧ ∃ Bq, Sta w 27 [] [(14, (Vv (r.length) r k)), (15, (Is (.int .i64 (r.length : Nat)))), (16, (Is (.int .i64 k1))), (8, (Mv n A k)), (9, (Is (.int .i64 (n : Nat)))), (10, (Is (.int .i64 k0))), (3, (Is (.int .i64 ((max (mx ((bitsM A).take k0)) (mx ((bitsR r).take k1)) : Nat) : Int))))] Bq a W) (fun (k1 : Nat) => r.length - k1) ?_ 0 ⟨Nat.zero_le _, B7, S7.sub [] [0, 1, 2, 4, 5, 6, 7]⟩
    rintro k1 a8 W8 ⟨hcond, B8, S8⟩
    by_cases hlt1 : k1 < r.length
    · obtain ⟨z, hz⟩ : ∃ z, r[k1]? = some z := ⟨r[k1]'(by omega), List.getElem?_eq_getElem _⟩
      have hmi := mx_take (l := bitsR r) (map_get' (fun z : Int => Go.bitLen z.natAbs) hz)
      refine wp_stmt_seq [.val (Is (.bool true))] [] [.inl 0, .inr 0, .inr 1, .inr 2, .inr 3, .inr 4, .inr 5, .inr 6] follows S8 rfl (by kernel_rfl) ?_ ?_
      · refine ⟨trivial, ?_⟩
        · exact owe_bin rfl (wants_all rfl) rfl (opnd_slot 2 16 rfl (by kernel_rfl)) (opnd_slot 1 15 rfl (by kernel_rfl)) rfl (fun ρ w h1 h2 => by exact run_lss_int_t ρ _ _ _ w _ _ (by omega) h1 h2)
      intro B9 a9 W9 S9
      replace S9 : Sta w 27 [] [(17, (Is (.bool true))), (14, (Vv (r.length) r k)), (15, (Is (.int .i64 (r.length : Nat)))), (16, (Is (.int .i64 k1))), (8, (Mv n A k)), (9, (Is (.int .i64 (n : Nat)))), (10, (Is (.int .i64 k0))), (3, (Is (.int .i64 ((max (mx ((bitsM A).take k0)) (mx ((bitsR r).take k1)) : Nat) : Int))))] B9 a9 W9 := S9
      refine wp_seq ?_
      refine wp_cond_true (S9.bool 0 17 rfl) ?_
      refine wp_skip ?_
      refine thenN ?_
      refine wp_seq ?_
      refine wp_block ?_
      refine wp_stmt_seq [.val (AtE 2 (Zv z k)),
      .val (Zv z k),
      .new (.box 39 (Is (.agg #[.bool false, .slice none 0 0]))),
      .put (.inr 2) (.box 39 (Zv z k))] [.inl 2] [.inr 0, .inr 1, .inr 2, .inr 3, .inr 4, .inr 5, .inr 6, .inr 7] follows S9 rfl (by kernel_rfl) ?_ ?_
      · refine ⟨⟨⟨⟨trivial, ?_⟩, ?_⟩, ?_⟩, ?_⟩
        · exact owe_aindex rfl (wants_all rfl) rfl idx_ints (opnd_slot 1 14 rfl (by kernel_rfl)) (opnd_slot 3 16 rfl (by kernel_rfl)) (map_get' _ hz) rfl
        · exact owe_aload rfl (wants_all rfl) rfl ldr_int (by decide) (cel_shp (by decide) shp_zv) (opnd_op 0 18 (by kernel_rfl) rfl) rfl
        · exact owe_new rfl (wants_all rfl) rfl rfl (fun ρ w => alloc_int ρ _ w)
        · exact owe_put 2 rfl (wants_all rfl) rfl (by kernel_rfl) rfl (opnd_op 1 19 (by kernel_rfl) rfl) (stores_of strct_int shp_z0 shp_zv) rfl
      intro B10 a10 W10 S10
      replace S10 : Sta w 27 [(7, (.box 39 (Zv z k)))] [(17, (Is (.bool true))), (14, (Vv (r.length) r k)), (15, (Is (.int .i64 (r.length : Nat)))), (16, (Is (.int .i64 k1))), (8, (Mv n A k)), (9, (Is (.int .i64 (n : Nat)))), (10, (Is (.int .i64 k0))), (3, (Is (.int .i64 ((max (mx ((bitsM A).take k0)) (mx ((bitsR r).take k1)) : Nat) : Int))))] B10 a10 W10 := S10
      refine wp_stmt [.val (Is (.int .i64 ((max (mx ((bitsM A).take k0)) (mx ((bitsR r).take k1)) : Nat) : Int))),
      .val (Zv z k),
      .val (Is (.int .i64 (Go.bitLen (z).natAbs : Nat))),
      .val (Is (.int .i64 ((max (mx ((bitsM A).take k0)) (mx ((bitsR r).take (k1 + 1))) : Nat) : Int))),
      .val (Is (.int .i64 ((max (mx ((bitsM A).take k0)) (mx ((bitsR r).take (k1 + 1))) : Nat) : Int)))] [.inr 0] [.inl 4, .inr 0, .inr 1, .inr 2, .inr 3, .inr 4, .inr 5, .inr 6] follows S10 rfl (by kernel_rfl) ?_ ?_
      · refine ⟨⟨⟨⟨⟨trivial, ?_⟩, ?_⟩, ?_⟩, ?_⟩, ?_⟩
        · exact owe_move rfl (wants_all rfl) (Or.inl rfl) (opnd_slot 7 3 rfl (by kernel_rfl)) rfl
        · exact owe_load rfl (wants_all rfl) rfl (k := 0) rfl (by kernel_rfl) (loads_of strct_int shp_zv) rfl
        · exact owe_callh1 rfl (wants_all rfl) rfl (opnd_op 1 21 (by kernel_rfl) rfl) (fresh_is _) rfl (fun args w => by go_simp) (fun w u0 h0 => (g_zbits (by omega)) w u0 ((fun _ _ h => h) _ _ h0.now))
        · exact owe_max rfl (wants_all rfl) rfl (opnd_op 0 20 (by kernel_rfl) rfl) (opnd_op 2 22 (by kernel_rfl) rfl) rfl (fun ρ w h1 h2 => run_max_int ρ _ _ _ w _ _ _ (by omega) h1 h2)
        · exact owe_move rfl (wants_all rfl) (Or.inr rfl) (opnd_op 3 23 (by kernel_rfl) rfl) rfl
      intro B11 a11 W11 S11
      replace S11 : Sta w 27 [(7, (.box 39 (Zv z k)))] [(3, (Is (.int .i64 ((max (mx ((bitsM A).take k0)) (mx ((bitsR r).take (k1 + 1))) : Nat) : Int)))), (17, (Is (.bool true))), (14, (Vv (r.length) r k)), (15, (Is (.int .i64 (r.length : Nat)))), (16, (Is (.int .i64 k1))), (8, (Mv n A k)), (9, (Is (.int .i64 (n : Nat)))), (10, (Is (.int .i64 k0)))] B11 a11 W11 := S11
      refine inBlkN ?_
      refine thenN ?_
      refine wp_stmt [.val (Is (.int .i64 (k1 + 1 : Nat))),
      .val (Is (.int .i64 (k1 + 1 : Nat)))] [.inr 0] [.inl 1, .inr 0, .inr 1, .inr 2, .inr 3, .inr 5, .inr 6, .inr 7] follows S11 rfl (by kernel_rfl) ?_ ?_
      · refine ⟨⟨trivial, ?_⟩, ?_⟩
        · exact owe_bin rfl (wants_all rfl) rfl (opnd_slot 4 16 rfl (by kernel_rfl)) (opnd_const _) rfl (fun ρ w h1 h2 => by exact run_add_int ρ _ _ _ w _ _ _ ⟨by omega, by omega, by omega⟩ h1 h2)
        · exact owe_move rfl (wants_all rfl) (Or.inl rfl) (opnd_op 0 24 (by kernel_rfl) rfl) rfl
      intro B12 a12 W12 S12
      replace S12 : Sta w 27 [(7, (.box 39 (Zv z k)))] [(16, (Is (.int .i64 (k1 + 1 : Nat)))), (3, (Is (.int .i64 ((max (mx ((bitsM A).take k0)) (mx ((bitsR r).take (k1 + 1))) : Nat) : Int)))), (17, (Is (.bool true))), (14, (Vv (r.length) r k)), (15, (Is (.int .i64 (r.length : Nat)))), (8, (Mv n A k)), (9, (Is (.int .i64 (n : Nat)))), (10, (Is (.int .i64 k0)))] B12 a12 W12 := S12
      refine thenN ?_
      exact ⟨k1 + 1, ⟨by omega, B12, S12.sub [] [3, 4, 0, 5, 6, 7, 1]⟩, by omega⟩
    · have hend1 : (bitsR r).take k1 = bitsR r := List.take_of_length_le (by simp [bitsR]; omega)
      have ee : max (mx ((bitsM A).take k0)) (mx ((bitsR r).take k1)) = mx ((bitsM A).take (k0 + 1)) := by rw [hend1, hmo]
      rw [ee] at S8
      refine wp_stmt_seq [.val (Is (.bool false))] [] [.inl 0, .inr 0, .inr 1, .inr 2, .inr 3, .inr 4, .inr 5, .inr 6] follows S8 rfl (by kernel_rfl) ?_ ?_
      · refine ⟨trivial, ?_⟩
        · exact owe_bin rfl (wants_all rfl) rfl (opnd_slot 2 16 rfl (by kernel_rfl)) (opnd_slot 1 15 rfl (by kernel_rfl)) rfl (fun ρ w h1 h2 => by exact run_lss_int_f ρ _ _ _ w _ _ (by omega) h1 h2)
      intro B9 a9 W9 S9
      replace S9 : Sta w 27 [] [(17, (Is (.bool false))), (14, (Vv (r.length) r k)), (15, (Is (.int .i64 (r.length : Nat)))), (16, (Is (.int .i64 k1))), (8, (Mv n A k)), (9, (Is (.int .i64 (n : Nat)))), (10, (Is (.int .i64 k0))), (3, (Is (.int .i64 ((mx ((bitsM A).take (k0 + 1)) : Nat) : Int))))] B9 a9 W9 := S9
      refine wp_seq ?_
      refine wp_cond_false (S9.bool 0 17 rfl) ?_
      refine wp_exit ?_
      refine thenX ?_
      refine thenX ?_
      refine inBlkE ?_
      refine inBlkN ?_
      refine thenN ?_
      refine wp_stmt [.val (Is (.int .i64 (k0 + 1 : Nat))),
      .val (Is (.int .i64 (k0 + 1 : Nat)))] [] [.inl 1, .inr 0, .inr 1, .inr 2, .inr 3, .inr 4, .inr 5, .inr 7] follows S9 rfl (by kernel_rfl) ?_ ?_
      · refine ⟨⟨trivial, ?_⟩, ?_⟩
        · exact owe_bin rfl (wants_all rfl) rfl (opnd_slot 6 10 rfl (by kernel_rfl)) (opnd_const _) rfl (fun ρ w h1 h2 => by exact run_add_int ρ _ _ _ w _ _ _ ⟨by omega, by omega, by omega⟩ h1 h2)
        · exact owe_move rfl (wants_all rfl) (Or.inl rfl) (opnd_op 0 25 (by kernel_rfl) rfl) rfl
      intro B10 a10 W10 S10
      replace S10 : Sta w 27 [] [(10, (Is (.int .i64 (k0 + 1 : Nat)))), (17, (Is (.bool false))), (14, (Vv (r.length) r k)), (15, (Is (.int .i64 (r.length : Nat)))), (16, (Is (.int .i64 k1))), (8, (Mv n A k)), (9, (Is (.int .i64 (n : Nat)))), (3, (Is (.int .i64 ((mx ((bitsM A).take (k0 + 1)) : Nat) : Int))))] B10 a10 W10 := S10
      refine thenN ?_
      exact ⟨k0 + 1, ⟨by omega, B10, S10.sub [] [5, 6, 0, 7]⟩, by omega⟩
  · have hend : (bitsM A).take k0 = bitsM A := List.take_of_length_le (by simp [bitsM]; omega)
    rw [← hend]
    refine wp_stmt_seq [.val (Is (.bool false))] [] [.inl 0, .inr 0, .inr 1, .inr 2, .inr 3] follows S4 rfl (by kernel_rfl) ?_ ?_
    · refine ⟨trivial, ?_⟩
      · exact owe_bin rfl (wants_all rfl) rfl (opnd_slot 2 10 rfl (by kernel_rfl)) (opnd_slot 1 9 rfl (by kernel_rfl)) rfl (fun ρ w h1 h2 => by exact run_lss_int_f ρ _ _ _ w _ _ (by omega) h1 h2)
    intro B5 a5 W5 S5
    replace S5 : Sta w 27 [] [(11, (Is (.bool false))), (8, (Mv n A k)), (9, (Is (.int .i64 (n : Nat)))), (10, (Is (.int .i64 k0))), (3, (Is (.int .i64 ((mx ((bitsM A).take k0) : Nat) : Int))))] B5 a5 W5 := S5
    refine wp_seq ?_
    refine wp_cond_false (S5.bool 0 11 rfl) ?_
    refine wp_exit ?_
    refine thenX ?_
    refine thenX ?_
    refine inBlkE ?_
    refine thenN ?_
    refine wp_stmt_seq [.val (Is (.int .i64 ((mx ((bitsM A).take k0) : Nat) : Int))),
      .val (Is (.int .i64 ((mx ((bitsM A).take k0) : Nat) : Int)))] [] [.inl 1, .inr 0, .inr 1, .inr 2, .inr 3, .inr 4] follows S5 rfl (by kernel_rfl) ?_ ?_
    · refine ⟨⟨trivial, ?_⟩, ?_⟩
      · exact owe_move rfl (wants_all rfl) (Or.inl rfl) (opnd_slot 4 3 rfl (by kernel_rfl)) rfl
      · exact owe_move rfl (wants_all rfl) (Or.inr rfl) (opnd_op 0 26 (by kernel_rfl) rfl) rfl
    intro B6 a6 W6 S6
    replace S6 : Sta w 27 [] [(2, (Is (.int .i64 ((mx ((bitsM A).take k0) : Nat) : Int)))), (11, (Is (.bool false))), (8, (Mv n A k)), (9, (Is (.int .i64 (n : Nat)))), (10, (Is (.int .i64 k0))), (3, (Is (.int .i64 ((mx ((bitsM A).take k0) : Nat) : Int))))] B6 a6 W6 := S6
    refine wp_ret ?_
    exact end_one S6 rfl (res_tmp S6 0 2 rfl)

set_option maxHeartbeats 400000 in
theorem rmbits_w (w : World) (u : Value) (n k : Nat) (A : List (List Int)) (h : Hs w (Mv n A k) u) (hn : n ≤ 1048576) (hs : k ≤ 1048576) (hL : Ml A 1048576) :
    Calls Try.prog 12 #[u] w (Gives (IS (.int .i64 (mx (bitsM A) : Nat))) w) := by
  have hA := mv_len h.now
  refine calls_sta (sl := [(0, (Mv n A k))]) Try.func12 rfl Try.ntmps12 (by simp) (args_cons rfl (h) args_nil) ?_
  intro a0 S0
  refine wp_stmt_seq [.val (Is (.int .i64 0))] [] [.inl 0, .inr 0] follows S0 rfl (by kernel_rfl) ?_ ?_
  · refine ⟨trivial, ?_⟩
    · exact owe_move rfl (wants_all rfl) (Or.inr rfl) (opnd_const _) rfl
  intro B1 a1 W1 S1
  replace S1 : Sta w 32 [] [(2, (Is (.int .i64 0))), (0, (Mv n A k))] B1 a1 W1 := S1
  refine wp_stmt_seq [.val (Is (.int .i64 0))] [] [.inl 0, .inr 0, .inr 1] follows S1 rfl (by kernel_rfl) ?_ ?_
  · refine ⟨trivial, ?_⟩
    · exact owe_move rfl (wants_all rfl) (Or.inr rfl) (opnd_const _) rfl
  intro B2 a2 W2 S2
  replace S2 : Sta w 32 [] [(3, (Is (.int .i64 0))), (2, (Is (.int .i64 0))), (0, (Mv n A k))] B2 a2 W2 := S2
  refine wp_seq ?_
  refine wp_stmt_seq [.val (Is (.int .i64 0))] [] [.inl 0, .inr 0, .inr 1, .inr 2] follows S2 rfl (by kernel_rfl) ?_ ?_
  · refine ⟨trivial, ?_⟩
    · exact owe_move rfl (wants_all rfl) (Or.inr rfl) (opnd_const _) rfl
  intro B3 a3 W3 S3
  replace S3 : Sta w 32 [] [(4, (Is (.int .i64 0))), (3, (Is (.int .i64 0))), (2, (Is (.int .i64 0))), (0, (Mv n A k))] B3 a3 W3 := S3
  refine wp_block ?_
  replace S3 : Sta w 32 [] [(4, (Is (.int .i64 0))), (3, (Is (.int .i64 ((mx ((bitsM A).take 0) : Nat) : Int)))), (2, (Is (.int .i64 0))), (0, (Mv n A k))] B3 a3 W3 := S3.change 1 rfl (fun v w e => e)
  refine wp_loop_ghost (fun (k0 : Nat) a W => (k0 ≤ n) ∧ ∃ Bq, Sta w 32 [] [(4, (Is (.int .i64 k0))), (3, (Is (.int .i64 ((mx ((bitsM A).take k0) : Nat) : Int)))), (0, (Mv n A k))] Bq a W) (fun (k0 : Nat) => n - k0) ?_ 0 ⟨Nat.zero_le _, B3, S3.sub [] [0, 1, 3]⟩
  rintro k0 a4 W4 ⟨hcond, B4, S4⟩
  by_cases hlt : k0 < n
  · obtain ⟨r, hr⟩ : ∃ r, A[k0]? = some r := ⟨A[k0]'(by omega), List.getElem?_eq_getElem _⟩
    have hrl := hL k0 r hr
    have hrow := map_get' (fun zs : List Int => Vv zs.length zs k) hr
    have hmo := mx_take (l := bitsM A) (map_get' (fun r => mx (bitsR r)) hr)
    have hm0 : mx ((bitsR r).take 0) = 0 := rfl
    refine wp_seq ?_
    refine wp_stmt_seq [.val (Is (.int .i64 k0)),
      .val (Mv n A k),
      .val (Is (.int .i64 (n : Nat))),
      .val (Is (.bool true))] [] [.inl 3, .inr 0, .inr 1, .inr 2] follows S4 rfl (by kernel_rfl) ?_ ?_
    · refine ⟨⟨⟨⟨trivial, ?_⟩, ?_⟩, ?_⟩, ?_⟩
      · exact owe_move rfl (wants_all rfl) (Or.inl rfl) (opnd_slot 0 4 rfl (by kernel_rfl)) rfl
      · exact owe_move rfl (wants_all rfl) (Or.inl rfl) (opnd_slot 2 0 rfl (by kernel_rfl)) rfl
      · exact owe_len rfl (wants_all rfl) rfl (opnd_op 1 7 (by kernel_rfl) rfl) ar_len Try.underlying22 rfl
      · exact owe_bin rfl (wants_all rfl) rfl (opnd_op 0 6 (by kernel_rfl) rfl) (opnd_op 2 8 (by kernel_rfl) rfl) rfl (fun ρ w h1 h2 => by exact run_lss_int_t ρ _ _ _ w _ _ (by omega) h1 h2)
    intro B5 a5 W5 S5
    replace S5 : Sta w 32 [] [(9, (Is (.bool true))), (4, (Is (.int .i64 k0))), (3, (Is (.int .i64 ((mx ((bitsM A).take k0) : Nat) : Int)))), (0, (Mv n A k))] B5 a5 W5 := S5
    refine wp_cond_true (S5.bool 0 9 rfl) ?_
    refine wp_skip ?_
    refine thenN ?_
    refine wp_seq ?_
    refine wp_block ?_
    refine wp_stmt_seq [.val (Is (.int .i64 0))] [] [.inl 0, .inr 0, .inr 1, .inr 2, .inr 3] follows S5 rfl (by kernel_rfl) ?_ ?_
    · refine ⟨trivial, ?_⟩
      · exact owe_move rfl (wants_all rfl) (Or.inr rfl) (opnd_const _) rfl
    intro B6 a6 W6 S6
    replace S6 : Sta w 32 [] [(5, (Is (.int .i64 0))), (9, (Is (.bool true))), (4, (Is (.int .i64 k0))), (3, (Is (.int .i64 ((mx ((bitsM A).take k0) : Nat) : Int)))), (0, (Mv n A k))] B6 a6 W6 := S6
    refine wp_block ?_
    replace S6 : Sta w 32 [] [(5, (Is (.int .i64 0))), (9, (Is (.bool true))), (4, (Is (.int .i64 k0))), (3, (Is (.int .i64 ((max (mx ((bitsM A).take k0)) (mx ((bitsR r).take 0)) : Nat) : Int)))), (0, (Mv n A k))] B6 a6 W6 := S6.change 3 rfl (fun v w e => by show v = _; rw [show v = _ from e, hm0, Nat.max_eq_left (Nat.zero_le _)])
    refine wp_loop_ghost (fun (k1 : Nat) a W => (k1 ≤ r.length) ∧ ∃ Bq, Sta w 32 [] [(5, (Is (.int .i64 k1))), (4, (Is (.int .i64 k0))), (3, (Is (.int .i64 ((max (mx ((bitsM A).take k0)) (mx ((bitsR r).take k1)) : Nat) : Int)))), (0, (Mv n A k))] Bq a W) (fun (k1 : Nat) => r.length - k1) ?_ 0 ⟨Nat.zero_le _, B6, S6.sub [] [0, 2, 3, 4]⟩
    rintro k1 a7 W7 ⟨hcond, B7, S7⟩
    by_cases hlt1 : k1 < r.length
    · obtain ⟨z, hz⟩ : ∃ z, r[k1]? = some z := ⟨r[k1]'(by omega), List.getElem?_eq_getElem _⟩
      have hmi := mx_take (l := bitsR r) (map_get' (fun z : Int => Go.bitLen z.natAbs) hz)
      refine wp_seq ?_
      refine wp_stmt_seq [.val (Is (.int .i64 k1)),
      .val (Mv n A k),
      .val (Is (.int .i64 k0)),
      .val (AtE 1 (Vv (r.length) r k)),
      .val (Vv (r.length) r k),
      .val (Is (.int .i64 (r.length : Nat))),
      .val (Is (.bool true))] [] [.inl 6, .inr 0, .inr 1, .inr 2, .inr 3] follows S7 rfl (by kernel_rfl) ?_ ?_
      · refine ⟨⟨⟨⟨⟨⟨⟨trivial, ?_⟩, ?_⟩, ?_⟩, ?_⟩, ?_⟩, ?_⟩, ?_⟩
        · exact owe_move rfl (wants_all rfl) (Or.inl rfl) (opnd_slot 0 5 rfl (by kernel_rfl)) rfl
        · exact owe_move rfl (wants_all rfl) (Or.inl rfl) (opnd_slot 3 0 rfl (by kernel_rfl)) rfl
        · exact owe_move rfl (wants_all rfl) (Or.inl rfl) (opnd_slot 1 4 rfl (by kernel_rfl)) rfl
        · exact owe_aindex rfl (wants_all rfl) rfl idx_rows (opnd_op 1 13 (by kernel_rfl) rfl) (opnd_op 2 14 (by kernel_rfl) rfl) hrow rfl
        · exact owe_aload rfl (wants_all rfl) rfl ldr_row1 (by decide) cel_vv (opnd_op 3 15 (by kernel_rfl) rfl) rfl
        · exact owe_len rfl (wants_all rfl) rfl (opnd_op 4 16 (by kernel_rfl) rfl) ar_len Try.underlying36 rfl
        · exact owe_bin rfl (wants_all rfl) rfl (opnd_op 0 12 (by kernel_rfl) rfl) (opnd_op 5 17 (by kernel_rfl) rfl) rfl (fun ρ w h1 h2 => by exact run_lss_int_t ρ _ _ _ w _ _ (by omega) h1 h2)
      intro B8 a8 W8 S8
      replace S8 : Sta w 32 [] [(18, (Is (.bool true))), (5, (Is (.int .i64 k1))), (4, (Is (.int .i64 k0))), (3, (Is (.int .i64 ((max (mx ((bitsM A).take k0)) (mx ((bitsR r).take k1)) : Nat) : Int)))), (0, (Mv n A k))] B8 a8 W8 := S8
      refine wp_cond_true (S8.bool 0 18 rfl) ?_
      refine wp_skip ?_
      refine thenN ?_
      refine wp_seq ?_
      refine wp_block ?_
      refine wp_stmt [.val (Is (.int .i64 ((max (mx ((bitsM A).take k0)) (mx ((bitsR r).take k1)) : Nat) : Int))),
      .val (Mv n A k),
      .val (Is (.int .i64 k0)),
      .val (AtE 1 (Vv (r.length) r k)),
      .val (Vv (r.length) r k),
      .val (Is (.int .i64 k1)),
      .val (AtE 2 (Zv z k)),
      .val (Zv z k),
      .val (Is (.int .i64 (Go.bitLen (z).natAbs : Nat))),
      .val (Is (.int .i64 ((max (mx ((bitsM A).take k0)) (mx ((bitsR r).take (k1 + 1))) : Nat) : Int))),
      .val (Is (.int .i64 ((max (mx ((bitsM A).take k0)) (mx ((bitsR r).take (k1 + 1))) : Nat) : Int)))] [] [.inl 10, .inr 0, .inr 1, .inr 2, .inr 4] follows S8 rfl (by kernel_rfl) ?_ ?_
      · refine ⟨⟨⟨⟨⟨⟨⟨⟨⟨⟨⟨trivial, ?_⟩, ?_⟩, ?_⟩, ?_⟩, ?_⟩, ?_⟩, ?_⟩, ?_⟩, ?_⟩, ?_⟩, ?_⟩
        · exact owe_move rfl (wants_all rfl) (Or.inl rfl) (opnd_slot 3 3 rfl (by kernel_rfl)) rfl
        · exact owe_move rfl (wants_all rfl) (Or.inl rfl) (opnd_slot 4 0 rfl (by kernel_rfl)) rfl
        · exact owe_move rfl (wants_all rfl) (Or.inl rfl) (opnd_slot 2 4 rfl (by kernel_rfl)) rfl
        · exact owe_aindex rfl (wants_all rfl) rfl idx_rows (opnd_op 1 22 (by kernel_rfl) rfl) (opnd_op 2 23 (by kernel_rfl) rfl) hrow rfl
        · exact owe_aload rfl (wants_all rfl) rfl ldr_row1 (by decide) cel_vv (opnd_op 3 24 (by kernel_rfl) rfl) rfl
        · exact owe_move rfl (wants_all rfl) (Or.inl rfl) (opnd_slot 1 5 rfl (by kernel_rfl)) rfl
        · exact owe_aindex rfl (wants_all rfl) rfl idx_ints (opnd_op 4 25 (by kernel_rfl) rfl) (opnd_op 5 26 (by kernel_rfl) rfl) (map_get' _ hz) rfl
        · exact owe_aload rfl (wants_all rfl) rfl ldr_int (by decide) (cel_shp (by decide) shp_zv) (opnd_op 6 27 (by kernel_rfl) rfl) rfl
        · exact owe_callh1 rfl (wants_all rfl) rfl (opnd_op 7 28 (by kernel_rfl) rfl) (fresh_is _) rfl (fun args w => by go_simp) (fun w u0 h0 => (g_rbits (by omega)) w u0 ((fun _ _ h => h) _ _ h0.now))
        · exact owe_max rfl (wants_all rfl) rfl (opnd_op 0 21 (by kernel_rfl) rfl) (opnd_op 8 29 (by kernel_rfl) rfl) rfl (fun ρ w h1 h2 => run_max_int ρ _ _ _ w _ _ _ (by omega) h1 h2)
        · exact owe_move rfl (wants_all rfl) (Or.inr rfl) (opnd_op 9 30 (by kernel_rfl) rfl) rfl
      intro B9 a9 W9 S9
      replace S9 : Sta w 32 [] [(3, (Is (.int .i64 ((max (mx ((bitsM A).take k0)) (mx ((bitsR r).take (k1 + 1))) : Nat) : Int)))), (18, (Is (.bool true))), (5, (Is (.int .i64 k1))), (4, (Is (.int .i64 k0))), (0, (Mv n A k))] B9 a9 W9 := S9
      refine inBlkN ?_
      refine thenN ?_
      refine wp_stmt [.val (Is (.int .i64 k1)),
      .val (Is (.int .i64 (k1 + 1 : Nat))),
      .val (Is (.int .i64 (k1 + 1 : Nat)))] [] [.inl 2, .inr 0, .inr 1, .inr 3, .inr 4] follows S9 rfl (by kernel_rfl) ?_ ?_
      · refine ⟨⟨⟨trivial, ?_⟩, ?_⟩, ?_⟩
        · exact owe_move rfl (wants_all rfl) (Or.inl rfl) (opnd_slot 2 5 rfl (by kernel_rfl)) rfl
        · exact owe_bin rfl (wants_all rfl) rfl (opnd_op 0 19 (by kernel_rfl) rfl) (opnd_const _) rfl (fun ρ w h1 h2 => by exact run_add_int ρ _ _ _ w _ _ _ ⟨by omega, by omega, by omega⟩ h1 h2)
        · exact owe_move rfl (wants_all rfl) (Or.inr rfl) (opnd_op 1 20 (by kernel_rfl) rfl) rfl
      intro B10 a10 W10 S10
      replace S10 : Sta w 32 [] [(5, (Is (.int .i64 (k1 + 1 : Nat)))), (3, (Is (.int .i64 ((max (mx ((bitsM A).take k0)) (mx ((bitsR r).take (k1 + 1))) : Nat) : Int)))), (18, (Is (.bool true))), (4, (Is (.int .i64 k0))), (0, (Mv n A k))] B10 a10 W10 := S10
      refine thenN ?_
      exact ⟨k1 + 1, ⟨by omega, B10, S10.sub [] [0, 3, 1, 4]⟩, by omega⟩
    · have hend1 : (bitsR r).take k1 = bitsR r := List.take_of_length_le (by simp [bitsR]; omega)
      have ee : max (mx ((bitsM A).take k0)) (mx ((bitsR r).take k1)) = mx ((bitsM A).take (k0 + 1)) := by rw [hend1, hmo]
      rw [ee] at S7
      refine wp_seq ?_
      refine wp_stmt_seq [.val (Is (.int .i64 k1)),
      .val (Mv n A k),
      .val (Is (.int .i64 k0)),
      .val (AtE 1 (Vv (r.length) r k)),
      .val (Vv (r.length) r k),
      .val (Is (.int .i64 (r.length : Nat))),
      .val (Is (.bool false))] [] [.inl 6, .inr 0, .inr 1, .inr 2, .inr 3] follows S7 rfl (by kernel_rfl) ?_ ?_
      · refine ⟨⟨⟨⟨⟨⟨⟨trivial, ?_⟩, ?_⟩, ?_⟩, ?_⟩, ?_⟩, ?_⟩, ?_⟩
        · exact owe_move rfl (wants_all rfl) (Or.inl rfl) (opnd_slot 0 5 rfl (by kernel_rfl)) rfl
        · exact owe_move rfl (wants_all rfl) (Or.inl rfl) (opnd_slot 3 0 rfl (by kernel_rfl)) rfl
        · exact owe_move rfl (wants_all rfl) (Or.inl rfl) (opnd_slot 1 4 rfl (by kernel_rfl)) rfl
        · exact owe_aindex rfl (wants_all rfl) rfl idx_rows (opnd_op 1 13 (by kernel_rfl) rfl) (opnd_op 2 14 (by kernel_rfl) rfl) hrow rfl
        · exact owe_aload rfl (wants_all rfl) rfl ldr_row1 (by decide) cel_vv (opnd_op 3 15 (by kernel_rfl) rfl) rfl
        · exact owe_len rfl (wants_all rfl) rfl (opnd_op 4 16 (by kernel_rfl) rfl) ar_len Try.underlying36 rfl
        · exact owe_bin rfl (wants_all rfl) rfl (opnd_op 0 12 (by kernel_rfl) rfl) (opnd_op 5 17 (by kernel_rfl) rfl) rfl (fun ρ w h1 h2 => by exact run_lss_int_f ρ _ _ _ w _ _ (by omega) h1 h2)
      intro B8 a8 W8 S8
      replace S8 : Sta w 32 [] [(18, (Is (.bool false))), (5, (Is (.int .i64 k1))), (4, (Is (.int .i64 k0))), (3, (Is (.int .i64 ((mx ((bitsM A).take (k0 + 1)) : Nat) : Int)))), (0, (Mv n A k))] B8 a8 W8 := S8
      refine wp_cond_false (S8.bool 0 18 rfl) ?_
      refine wp_exit ?_
      refine thenX ?_
      refine thenX ?_
      refine inBlkE ?_
      refine inBlkN ?_
      refine thenN ?_
      refine wp_stmt [.val (Is (.int .i64 k0)),
      .val (Is (.int .i64 (k0 + 1 : Nat))),
      .val (Is (.int .i64 (k0 + 1 : Nat)))] [] [.inl 2, .inr 0, .inr 1, .inr 3, .inr 4] follows S8 rfl (by kernel_rfl) ?_ ?_
      · refine ⟨⟨⟨trivial, ?_⟩, ?_⟩, ?_⟩
        · exact owe_move rfl (wants_all rfl) (Or.inl rfl) (opnd_slot 2 4 rfl (by kernel_rfl)) rfl
        · exact owe_bin rfl (wants_all rfl) rfl (opnd_op 0 10 (by kernel_rfl) rfl) (opnd_const _) rfl (fun ρ w h1 h2 => by exact run_add_int ρ _ _ _ w _ _ _ ⟨by omega, by omega, by omega⟩ h1 h2)
        · exact owe_move rfl (wants_all rfl) (Or.inr rfl) (opnd_op 1 11 (by kernel_rfl) rfl) rfl
      intro B9 a9 W9 S9
      replace S9 : Sta w 32 [] [(4, (Is (.int .i64 (k0 + 1 : Nat)))), (18, (Is (.bool false))), (5, (Is (.int .i64 k1))), (3, (Is (.int .i64 ((mx ((bitsM A).take (k0 + 1)) : Nat) : Int)))), (0, (Mv n A k))] B9 a9 W9 := S9
      refine thenN ?_
      exact ⟨k0 + 1, ⟨by omega, B9, S9.sub [] [0, 3, 4]⟩, by omega⟩
  · have hend : (bitsM A).take k0 = bitsM A := List.take_of_length_le (by simp [bitsM]; omega)
    rw [← hend]
    refine wp_seq ?_
    refine wp_stmt_seq [.val (Is (.int .i64 k0)),
      .val (Mv n A k),
      .val (Is (.int .i64 (n : Nat))),
      .val (Is (.bool false))] [] [.inl 3, .inr 0, .inr 1, .inr 2] follows S4 rfl (by kernel_rfl) ?_ ?_
    · refine ⟨⟨⟨⟨trivial, ?_⟩, ?_⟩, ?_⟩, ?_⟩
      · exact owe_move rfl (wants_all rfl) (Or.inl rfl) (opnd_slot 0 4 rfl (by kernel_rfl)) rfl
      · exact owe_move rfl (wants_all rfl) (Or.inl rfl) (opnd_slot 2 0 rfl (by kernel_rfl)) rfl
      · exact owe_len rfl (wants_all rfl) rfl (opnd_op 1 7 (by kernel_rfl) rfl) ar_len Try.underlying22 rfl
      · exact owe_bin rfl (wants_all rfl) rfl (opnd_op 0 6 (by kernel_rfl) rfl) (opnd_op 2 8 (by kernel_rfl) rfl) rfl (fun ρ w h1 h2 => by exact run_lss_int_f ρ _ _ _ w _ _ (by omega) h1 h2)
    intro B5 a5 W5 S5
    replace S5 : Sta w 32 [] [(9, (Is (.bool false))), (4, (Is (.int .i64 k0))), (3, (Is (.int .i64 ((mx ((bitsM A).take k0) : Nat) : Int)))), (0, (Mv n A k))] B5 a5 W5 := S5
    refine wp_cond_false (S5.bool 0 9 rfl) ?_
    refine wp_exit ?_
    refine thenX ?_
    refine thenX ?_
    refine inBlkE ?_
    refine thenN ?_
    refine wp_stmt_seq [.val (Is (.int .i64 ((mx ((bitsM A).take k0) : Nat) : Int))),
      .val (Is (.int .i64 ((mx ((bitsM A).take k0) : Nat) : Int)))] [] [.inl 1, .inr 0, .inr 1, .inr 2, .inr 3] follows S5 rfl (by kernel_rfl) ?_ ?_
    · refine ⟨⟨trivial, ?_⟩, ?_⟩
      · exact owe_move rfl (wants_all rfl) (Or.inl rfl) (opnd_slot 2 3 rfl (by kernel_rfl)) rfl
      · exact owe_move rfl (wants_all rfl) (Or.inr rfl) (opnd_op 0 31 (by kernel_rfl) rfl) rfl
    intro B6 a6 W6 S6
    replace S6 : Sta w 32 [] [(2, (Is (.int .i64 ((mx ((bitsM A).take k0) : Nat) : Int)))), (9, (Is (.bool false))), (4, (Is (.int .i64 k0))), (3, (Is (.int .i64 ((mx ((bitsM A).take k0) : Nat) : Int)))), (0, (Mv n A k))] B6 a6 W6 := S6
    refine wp_ret ?_
    exact end_one S6 rfl (res_tmp S6 0 2 rfl)

end Go.Proofs.Ytiehipnaklkhjaa

/-
  slices.Concat; each over lists of lists and of ints.
-/
namespace Go.Proofs.Ytiehipnaklkhjaa
open Go Go.RowKit Nt
set_option linter.unusedSimpArgs false
set_option linter.unusedVariables false
set_option maxRecDepth 20000


/-- A matrix of these very values. -/
abbrev Mq (n : Nat) (xss : List (List Value)) : Pr := Ar 1 n (xss.map (fun xs => Ar 2 xs.length (xs.map Is)))
theorem fl_succ {α : Type} {xss : List (List α)} {k : Nat} {xs : List α} (h : xss[k]? = some xs) : (xss.take (k + 1)).flatten = (xss.take k).flatten ++ xs := by
  rw [List.take_add_one, h]
  simp
theorem fl_le {α : Type} {xss : List (List α)} {K : Nat} (h : Ml xss K) (k : Nat) : ((xss.take k).flatten).length ≤ k * K := by
  induction k with
  | zero => simp
  | succ k ih =>
    rw [Nat.succ_mul]
    cases hx : xss[k]? with
    | none =>
      rw [List.take_add_one, hx]
      simp only [Option.toList, List.append_nil]
      omega
    | some xs =>
      rw [fl_succ hx, List.length_append]
      have := h k xs hx
      omega

set_option maxHeartbeats 400000 in
theorem concat_w (w : World) (u : Value) (n : Nat) (xss : List (List Value)) (h : Hs w (Mq n xss) u) (hlen : xss.length = n) (hn : n ≤ 1048576) (hL : Ml xss 1048576) (hcel : ∀ xs ∈ xss, ∀ x ∈ xs, Celv 2 x) :
    Calls Try.prog 57 #[u] w (Gives (LF 2 (xss.flatten.length) (xss.flatten.map IS)) w) := by
  refine calls_sta (sl := [(0, (Ar 1 n (xss.map (fun xs => Ar 2 xs.length (xs.map Is)))))]) Try.func57 rfl Try.ntmps57 (by simp) (args_cons rfl (h) args_nil) ?_
  intro a0 S0
  refine wp_stmt_seq [.val (Is (.slice none 0 0))] [] [.inl 0, .inr 0] follows S0 rfl (by kernel_rfl) ?_ ?_
  · refine ⟨trivial, ?_⟩
    · exact owe_move rfl (wants_all rfl) (Or.inr rfl) (opnd_const _) rfl
  intro B1 a1 W1 S1
  replace S1 : Sta w 36 [] [(2, (Is (.slice none 0 0))), (0, (Ar 1 n (xss.map (fun xs => Ar 2 xs.length (xs.map Is)))))] B1 a1 W1 := S1
  refine wp_stmt_seq [.val (Is (.int .i64 0))] [] [.inl 0, .inr 0, .inr 1] follows S1 rfl (by kernel_rfl) ?_ ?_
  · refine ⟨trivial, ?_⟩
    · exact owe_move rfl (wants_all rfl) (Or.inr rfl) (opnd_const _) rfl
  intro B2 a2 W2 S2
  replace S2 : Sta w 36 [] [(3, (Is (.int .i64 0))), (2, (Is (.slice none 0 0))), (0, (Ar 1 n (xss.map (fun xs => Ar 2 xs.length (xs.map Is)))))] B2 a2 W2 := S2
  refine wp_seq ?_
  refine wp_stmt_seq [.val (Ar 1 n (xss.map (fun xs => Ar 2 xs.length (xs.map Is)))),
      .val (Is (.int .i64 (n : Nat))),
      .val (Is (.int .i64 0))] [] [.inl 0, .inl 1, .inl 2, .inr 0, .inr 1, .inr 2] follows S2 rfl (by kernel_rfl) ?_ ?_
  · refine ⟨⟨⟨trivial, ?_⟩, ?_⟩, ?_⟩
    · exact owe_move rfl (wants_all rfl) (Or.inl rfl) (opnd_slot 2 0 rfl (by kernel_rfl)) rfl
    · exact owe_len rfl (wants_all rfl) rfl (opnd_op 0 9 (by kernel_rfl) rfl) ar_len Try.underlying22 rfl
    · exact owe_move rfl (wants_all rfl) (Or.inl rfl) (opnd_const _) rfl
  intro B3 a3 W3 S3
  replace S3 : Sta w 36 [] [(9, (Ar 1 n (xss.map (fun xs => Ar 2 xs.length (xs.map Is))))), (10, (Is (.int .i64 (n : Nat)))), (11, (Is (.int .i64 0))), (3, (Is (.int .i64 0))), (2, (Is (.slice none 0 0))), (0, (Ar 1 n (xss.map (fun xs => Ar 2 xs.length (xs.map Is)))))] B3 a3 W3 := S3
  refine wp_block ?_
  replace S3 : Sta w 36 [] [(9, (Ar 1 n (xss.map (fun xs => Ar 2 xs.length (xs.map Is))))), (10, (Is (.int .i64 (n : Nat)))), (11, (Is (.int .i64 0))), (3, (Is (.int .i64 ((((xss.take 0).flatten).length : Nat) : Int)))), (2, (Is (.slice none 0 0))), (0, (Ar 1 n (xss.map (fun xs => Ar 2 xs.length (xs.map Is)))))] B3 a3 W3 := S3.change 3 rfl (fun v w e => e)
  refine wp_loop_ghost (fun (k0 : Nat) a W => (k0 ≤ n) ∧ ∃ Bq, Sta w 36 [] [(9, (Ar 1 n (xss.map (fun xs => Ar 2 xs.length (xs.map Is))))), (10, (Is (.int .i64 (n : Nat)))), (11, (Is (.int .i64 k0))), (3, (Is (.int .i64 ((((xss.take k0).flatten).length : Nat) : Int)))), (0, (Ar 1 n (xss.map (fun xs => Ar 2 xs.length (xs.map Is)))))] Bq a W) (fun (k0 : Nat) => n - k0) ?_ 0 ⟨Nat.zero_le _, B3, S3.sub [] [0, 1, 2, 3, 5]⟩
  rintro k0 a4 W4 ⟨hcond, B4, S4⟩
  by_cases hlt : k0 < n
  · obtain ⟨xs, hxs⟩ : ∃ xs, xss[k0]? = some xs := ⟨xss[k0]'(by omega), List.getElem?_eq_getElem _⟩
    have hrow := map_get' (fun xs : List Value => Ar 2 xs.length (xs.map Is)) hxs
    have hfk := fl_succ hxs
    have hq1 : ((xss.take k0).flatten).length + xs.length = ((xss.take (k0 + 1)).flatten).length := by rw [hfk, List.length_append]
    have hq2 : ((xss.take k0).flatten).map Is ++ xs.map Is = ((xss.take (k0 + 1)).flatten).map Is := by rw [hfk, List.map_append]
    have hle := fl_le hL (k0 + 1)
    have hle0 := fl_le hL k0
    have hle1 : (k0 + 1) * 1048576 ≤ 1048576 * 1048576 := Nat.mul_le_mul_right _ (by omega)
    have hcx : ∀ (i : Nat) φ, (xs.map Is)[i]? = some φ → Cel 2 φ := fun i φ h => by obtain ⟨x, hx, rfl⟩ := map_get h; exact fun v w e => by rw [show v = x from e]; exact hcel xs (List.mem_of_getElem? hxs) x (List.mem_of_getElem? hx)
    refine wp_stmt_seq [.val (Is (.bool true))] [] [.inl 0, .inr 0, .inr 1, .inr 2, .inr 3, .inr 4] follows S4 rfl (by kernel_rfl) ?_ ?_
    · refine ⟨trivial, ?_⟩
      · exact owe_bin rfl (wants_all rfl) rfl (opnd_slot 2 11 rfl (by kernel_rfl)) (opnd_slot 1 10 rfl (by kernel_rfl)) rfl (fun ρ w h1 h2 => by exact run_lss_int_t ρ _ _ _ w _ _ (by omega) h1 h2)
    intro B5 a5 W5 S5
    replace S5 : Sta w 36 [] [(12, (Is (.bool true))), (9, (Ar 1 n (xss.map (fun xs => Ar 2 xs.length (xs.map Is))))), (10, (Is (.int .i64 (n : Nat)))), (11, (Is (.int .i64 k0))), (3, (Is (.int .i64 ((((xss.take k0).flatten).length : Nat) : Int)))), (0, (Ar 1 n (xss.map (fun xs => Ar 2 xs.length (xs.map Is)))))] B5 a5 W5 := S5
    refine wp_seq ?_
    refine wp_cond_true (S5.bool 0 12 rfl) ?_
    refine wp_skip ?_
    refine thenN ?_
    refine wp_seq ?_
    refine wp_block ?_
    refine wp_stmt_seq [.val (AtE 1 (Ar 2 (xs.length) (xs.map Is))),
      .val (Ar 2 (xs.length) (xs.map Is)),
      .val (Ar 2 (xs.length) (xs.map Is))] [] [.inl 2, .inr 0, .inr 1, .inr 2, .inr 3, .inr 4, .inr 5] follows S5 rfl (by kernel_rfl) ?_ ?_
    · refine ⟨⟨⟨trivial, ?_⟩, ?_⟩, ?_⟩
      · exact owe_aindex rfl (wants_all rfl) rfl idx_rows (opnd_slot 1 9 rfl (by kernel_rfl)) (opnd_slot 3 11 rfl (by kernel_rfl)) hrow rfl
      · exact owe_aload rfl (wants_all rfl) rfl ldr_row1 (by decide) cel_ar (opnd_op 0 13 (by kernel_rfl) rfl) rfl
      · exact owe_move rfl (wants_all rfl) (Or.inr rfl) (opnd_op 1 14 (by kernel_rfl) rfl) rfl
    intro B6 a6 W6 S6
    replace S6 : Sta w 36 [] [(5, (Ar 2 (xs.length) (xs.map Is))), (12, (Is (.bool true))), (9, (Ar 1 n (xss.map (fun xs => Ar 2 xs.length (xs.map Is))))), (10, (Is (.int .i64 (n : Nat)))), (11, (Is (.int .i64 k0))), (3, (Is (.int .i64 ((((xss.take k0).flatten).length : Nat) : Int)))), (0, (Ar 1 n (xss.map (fun xs => Ar 2 xs.length (xs.map Is)))))] B6 a6 W6 := S6
    refine wp_stmt_seq [.val (Is (.int .i64 ((((xss.take k0).flatten).length : Nat) : Int))),
      .val (Ar 2 (xs.length) (xs.map Is)),
      .val (Is (.int .i64 (xs.length : Nat))),
      .val (Is (.int .i64 ((((xss.take (k0 + 1)).flatten).length : Nat) : Int))),
      .val (Is (.int .i64 ((((xss.take (k0 + 1)).flatten).length : Nat) : Int)))] [] [.inl 4, .inr 1, .inr 2, .inr 3, .inr 4, .inr 6] follows S6 rfl (by kernel_rfl) ?_ ?_
    · refine ⟨⟨⟨⟨⟨trivial, ?_⟩, ?_⟩, ?_⟩, ?_⟩, ?_⟩
      · exact owe_move rfl (wants_all rfl) (Or.inl rfl) (opnd_slot 5 3 rfl (by kernel_rfl)) rfl
      · exact owe_move rfl (wants_all rfl) (Or.inl rfl) (opnd_slot 0 5 rfl (by kernel_rfl)) rfl
      · exact owe_len rfl (wants_all rfl) rfl (opnd_op 1 16 (by kernel_rfl) rfl) ar_len Try.underlying36 rfl
      · exact owe_bin rfl (wants_all rfl) rfl (opnd_op 0 15 (by kernel_rfl) rfl) (opnd_op 2 17 (by kernel_rfl) rfl) rfl (fun ρ w h1 h2 => by exact run_add_int ρ _ _ _ w _ _ _ ⟨by omega, by omega, by omega⟩ h1 h2)
      · exact owe_move rfl (wants_all rfl) (Or.inr rfl) (opnd_op 3 18 (by kernel_rfl) rfl) rfl
    intro B7 a7 W7 S7
    replace S7 : Sta w 36 [] [(3, (Is (.int .i64 ((((xss.take (k0 + 1)).flatten).length : Nat) : Int)))), (12, (Is (.bool true))), (9, (Ar 1 n (xss.map (fun xs => Ar 2 xs.length (xs.map Is))))), (10, (Is (.int .i64 (n : Nat)))), (11, (Is (.int .i64 k0))), (0, (Ar 1 n (xss.map (fun xs => Ar 2 xs.length (xs.map Is)))))] B7 a7 W7 := S7
    refine wp_stmt_seq [.val (Is (.int .i64 ((((xss.take (k0 + 1)).flatten).length : Nat) : Int))),
      .val (Is (.bool false))] [] [.inl 1, .inr 0, .inr 1, .inr 2, .inr 3, .inr 4, .inr 5] follows S7 rfl (by kernel_rfl) ?_ ?_
    · refine ⟨⟨trivial, ?_⟩, ?_⟩
      · exact owe_move rfl (wants_all rfl) (Or.inl rfl) (opnd_slot 0 3 rfl (by kernel_rfl)) rfl
      · exact owe_bin rfl (wants_all rfl) rfl (opnd_op 0 19 (by kernel_rfl) rfl) (opnd_const _) rfl (fun ρ w h1 h2 => by exact run_lss_int_f ρ _ _ _ w _ _ (by omega) h1 h2)
    intro B8 a8 W8 S8
    replace S8 : Sta w 36 [] [(20, (Is (.bool false))), (3, (Is (.int .i64 ((((xss.take (k0 + 1)).flatten).length : Nat) : Int)))), (12, (Is (.bool true))), (9, (Ar 1 n (xss.map (fun xs => Ar 2 xs.length (xs.map Is))))), (10, (Is (.int .i64 (n : Nat)))), (11, (Is (.int .i64 k0))), (0, (Ar 1 n (xss.map (fun xs => Ar 2 xs.length (xs.map Is)))))] B8 a8 W8 := S8
    refine wp_cond_false (S8.bool 0 20 rfl) ?_
    refine wp_skip ?_
    refine inBlkN ?_
    refine thenN ?_
    refine wp_stmt [.val (Is (.int .i64 (k0 + 1 : Nat))),
      .val (Is (.int .i64 (k0 + 1 : Nat)))] [] [.inl 1, .inr 0, .inr 1, .inr 2, .inr 3, .inr 4, .inr 6] follows S8 rfl (by kernel_rfl) ?_ ?_
    · refine ⟨⟨trivial, ?_⟩, ?_⟩
      · exact owe_bin rfl (wants_all rfl) rfl (opnd_slot 5 11 rfl (by kernel_rfl)) (opnd_const _) rfl (fun ρ w h1 h2 => by exact run_add_int ρ _ _ _ w _ _ _ ⟨by omega, by omega, by omega⟩ h1 h2)
      · exact owe_move rfl (wants_all rfl) (Or.inl rfl) (opnd_op 0 22 (by kernel_rfl) rfl) rfl
    intro B9 a9 W9 S9
    replace S9 : Sta w 36 [] [(11, (Is (.int .i64 (k0 + 1 : Nat)))), (20, (Is (.bool false))), (3, (Is (.int .i64 ((((xss.take (k0 + 1)).flatten).length : Nat) : Int)))), (12, (Is (.bool true))), (9, (Ar 1 n (xss.map (fun xs => Ar 2 xs.length (xs.map Is))))), (10, (Is (.int .i64 (n : Nat)))), (0, (Ar 1 n (xss.map (fun xs => Ar 2 xs.length (xs.map Is)))))] B9 a9 W9 := S9
    refine thenN ?_
    exact ⟨k0 + 1, ⟨by omega, B9, S9.sub [] [4, 5, 0, 2, 6]⟩, by omega⟩
  · have ek : k0 = n := by omega
    have hle := fl_le hL k0
    have hle1 : k0 * 1048576 ≤ 1048576 * 1048576 := Nat.mul_le_mul_right _ (by omega)
    refine wp_stmt_seq [.val (Is (.bool false))] [] [.inl 0, .inr 0, .inr 1, .inr 2, .inr 3, .inr 4] follows S4 rfl (by kernel_rfl) ?_ ?_
    · refine ⟨trivial, ?_⟩
      · exact owe_bin rfl (wants_all rfl) rfl (opnd_slot 2 11 rfl (by kernel_rfl)) (opnd_slot 1 10 rfl (by kernel_rfl)) rfl (fun ρ w h1 h2 => by exact run_lss_int_f ρ _ _ _ w _ _ (by omega) h1 h2)
    intro B5 a5 W5 S5
    replace S5 : Sta w 36 [] [(12, (Is (.bool false))), (9, (Ar 1 n (xss.map (fun xs => Ar 2 xs.length (xs.map Is))))), (10, (Is (.int .i64 (n : Nat)))), (11, (Is (.int .i64 k0))), (3, (Is (.int .i64 ((((xss.take k0).flatten).length : Nat) : Int)))), (0, (Ar 1 n (xss.map (fun xs => Ar 2 xs.length (xs.map Is)))))] B5 a5 W5 := S5
    refine wp_seq ?_
    refine wp_cond_false (S5.bool 0 12 rfl) ?_
    refine wp_exit ?_
    refine thenX ?_
    refine thenX ?_
    refine inBlkE ?_
    refine thenN ?_
    refine wp_stmt_seq [.val (Is (.int .i64 ((((xss.take k0).flatten).length : Nat) : Int))),
      .new (.row 39 2 (((xss.take 0).flatten).length) (CE 2 (((xss.take 0).flatten).map Is))),
      .ref 1] [.inl 2] [.inr 0, .inr 1, .inr 2, .inr 3, .inr 4, .inr 5] follows S5 rfl (by kernel_rfl) ?_ ?_
    · refine ⟨⟨⟨trivial, ?_⟩, ?_⟩, ?_⟩
      · exact owe_move rfl (wants_all rfl) (Or.inl rfl) (opnd_slot 4 3 rfl (by kernel_rfl)) rfl
      · exact owe_callR rfl (wants_all rfl) rfl (opnd_const _) (opnd_op 0 23 (by kernel_rfl) rfl) rfl (fun args w => by go_simp) (fun w => grow_c w _ (by omega))
      · exact owe_ref 1 rfl (wants_all rfl) (Or.inr rfl) (by kernel_rfl) rfl rfl
    intro B6 a6 W6 S6
    replace S6 : Sta w 36 [(6, (.row 39 2 (((xss.take 0).flatten).length) (CE 2 (((xss.take 0).flatten).map Is))))] [(12, (Is (.bool false))), (9, (Ar 1 n (xss.map (fun xs => Ar 2 xs.length (xs.map Is))))), (10, (Is (.int .i64 (n : Nat)))), (11, (Is (.int .i64 k0))), (3, (Is (.int .i64 ((((xss.take k0).flatten).length : Nat) : Int)))), (0, (Ar 1 n (xss.map (fun xs => Ar 2 xs.length (xs.map Is)))))] B6 a6 W6 := S6
    refine wp_seq ?_
    refine wp_stmt_seq [.val (Ar 1 n (xss.map (fun xs => Ar 2 xs.length (xs.map Is)))),
      .val (Is (.int .i64 (n : Nat))),
      .val (Is (.int .i64 0))] [.inr 0] [.inl 0, .inl 1, .inl 2, .inr 0, .inr 1, .inr 2, .inr 3, .inr 4, .inr 5] follows S6 rfl (by kernel_rfl) ?_ ?_
    · refine ⟨⟨⟨trivial, ?_⟩, ?_⟩, ?_⟩
      · exact owe_move rfl (wants_all rfl) (Or.inl rfl) (opnd_slot 5 0 rfl (by kernel_rfl)) rfl
      · exact owe_len rfl (wants_all rfl) rfl (opnd_op 0 25 (by kernel_rfl) rfl) ar_len Try.underlying22 rfl
      · exact owe_move rfl (wants_all rfl) (Or.inl rfl) (opnd_const _) rfl
    intro B7 a7 W7 S7
    replace S7 : Sta w 36 [(6, (.row 39 2 (((xss.take 0).flatten).length) (CE 2 (((xss.take 0).flatten).map Is))))] [(25, (Ar 1 n (xss.map (fun xs => Ar 2 xs.length (xs.map Is))))), (26, (Is (.int .i64 (n : Nat)))), (27, (Is (.int .i64 0))), (12, (Is (.bool false))), (9, (Ar 1 n (xss.map (fun xs => Ar 2 xs.length (xs.map Is))))), (10, (Is (.int .i64 (n : Nat)))), (11, (Is (.int .i64 k0))), (3, (Is (.int .i64 ((((xss.take k0).flatten).length : Nat) : Int)))), (0, (Ar 1 n (xss.map (fun xs => Ar 2 xs.length (xs.map Is)))))] B7 a7 W7 := S7
    refine wp_block ?_
    refine wp_loop_ghost (fun (k0 : Nat) a W => (k0 ≤ n) ∧ ∃ Bq, Sta w 36 [(6, (.row 39 2 (((xss.take k0).flatten).length) (CE 2 (((xss.take k0).flatten).map Is))))] [(25, (Ar 1 n (xss.map (fun xs => Ar 2 xs.length (xs.map Is))))), (26, (Is (.int .i64 (n : Nat)))), (27, (Is (.int .i64 k0)))] Bq a W) (fun (k0 : Nat) => n - k0) ?_ 0 ⟨Nat.zero_le _, B7, S7.sub [0] [0, 1, 2]⟩
    rintro k0 a8 W8 ⟨hcond, B8, S8⟩
    by_cases hlt : k0 < n
    · obtain ⟨xs, hxs⟩ : ∃ xs, xss[k0]? = some xs := ⟨xss[k0]'(by omega), List.getElem?_eq_getElem _⟩
      have hrow := map_get' (fun xs : List Value => Ar 2 xs.length (xs.map Is)) hxs
      have hfk := fl_succ hxs
      have hq1 : ((xss.take k0).flatten).length + xs.length = ((xss.take (k0 + 1)).flatten).length := by rw [hfk, List.length_append]
      have hq2 : ((xss.take k0).flatten).map Is ++ xs.map Is = ((xss.take (k0 + 1)).flatten).map Is := by rw [hfk, List.map_append]
      have hle := fl_le hL (k0 + 1)
      have hle0 := fl_le hL k0
      have hle1 : (k0 + 1) * 1048576 ≤ 1048576 * 1048576 := Nat.mul_le_mul_right _ (by omega)
      have hcx : ∀ (i : Nat) φ, (xs.map Is)[i]? = some φ → Cel 2 φ := fun i φ h => by obtain ⟨x, hx, rfl⟩ := map_get h; exact fun v w e => by rw [show v = x from e]; exact hcel xs (List.mem_of_getElem? hxs) x (List.mem_of_getElem? hx)
      refine wp_stmt_seq [.val (Is (.bool true))] [.inr 0] [.inl 0, .inr 0, .inr 1, .inr 2] follows S8 rfl (by kernel_rfl) ?_ ?_
      · refine ⟨trivial, ?_⟩
        · exact owe_bin rfl (wants_all rfl) rfl (opnd_slot 2 27 rfl (by kernel_rfl)) (opnd_slot 1 26 rfl (by kernel_rfl)) rfl (fun ρ w h1 h2 => by exact run_lss_int_t ρ _ _ _ w _ _ (by omega) h1 h2)
      intro B9 a9 W9 S9
      replace S9 : Sta w 36 [(6, (.row 39 2 (((xss.take k0).flatten).length) (CE 2 (((xss.take k0).flatten).map Is))))] [(28, (Is (.bool true))), (25, (Ar 1 n (xss.map (fun xs => Ar 2 xs.length (xs.map Is))))), (26, (Is (.int .i64 (n : Nat)))), (27, (Is (.int .i64 k0)))] B9 a9 W9 := S9
      refine wp_seq ?_
      refine wp_cond_true (S9.bool 0 28 rfl) ?_
      refine wp_skip ?_
      refine thenN ?_
      refine wp_seq ?_
      refine wp_block ?_
      refine wp_stmt_seq [.val (AtE 1 (Ar 2 (xs.length) (xs.map Is))),
      .val (Ar 2 (xs.length) (xs.map Is)),
      .val (Ar 2 (xs.length) (xs.map Is))] [.inr 0] [.inl 2, .inr 0, .inr 1, .inr 2, .inr 3] follows S9 rfl (by kernel_rfl) ?_ ?_
      · refine ⟨⟨⟨trivial, ?_⟩, ?_⟩, ?_⟩
        · exact owe_aindex rfl (wants_all rfl) rfl idx_rows (opnd_slot 1 25 rfl (by kernel_rfl)) (opnd_slot 3 27 rfl (by kernel_rfl)) hrow rfl
        · exact owe_aload rfl (wants_all rfl) rfl ldr_row1 (by decide) cel_ar (opnd_op 0 29 (by kernel_rfl) rfl) rfl
        · exact owe_move rfl (wants_all rfl) (Or.inr rfl) (opnd_op 1 30 (by kernel_rfl) rfl) rfl
      intro B10 a10 W10 S10
      replace S10 : Sta w 36 [(6, (.row 39 2 (((xss.take k0).flatten).length) (CE 2 (((xss.take k0).flatten).map Is))))] [(8, (Ar 2 (xs.length) (xs.map Is))), (28, (Is (.bool true))), (25, (Ar 1 n (xss.map (fun xs => Ar 2 xs.length (xs.map Is))))), (26, (Is (.int .i64 (n : Nat)))), (27, (Is (.int .i64 k0)))] B10 a10 W10 := S10
      refine wp_stmt [.val (Is (a10.eval (.tmp 6))),
      .val (Ar 2 (xs.length) (xs.map Is)),
      .mov 6 (.row 39 2 (((xss.take (k0 + 1)).flatten).length) (CE 2 (((xss.take (k0 + 1)).flatten).map Is))),
      .ref 2] [.inl 3] [.inr 1, .inr 2, .inr 3, .inr 4] follows S10 rfl (by kernel_rfl) ?_ ?_
      · refine ⟨⟨⟨⟨trivial, ?_⟩, ?_⟩, ?_⟩, ?_⟩
        · exact owe_same rfl (wants_all rfl) (Or.inl rfl) (by kernel_rfl) rfl
        · exact owe_move rfl (wants_all rfl) (Or.inl rfl) (opnd_slot 0 8 rfl (by kernel_rfl)) rfl
        · exact owe_appendL rfl (wants_all rfl) rfl (opnd_op 0 31 (by kernel_rfl) rfl) (k := 0) rfl (by kernel_rfl) (opnd_op 1 32 (by kernel_rfl) rfl) hcx einf_int Try.underlying36 ⟨by unfold maxLen; omega, by omega⟩ (by rw [hq1, hq2]; rfl)
        · exact owe_ref 2 rfl (wants_all rfl) (Or.inr rfl) (by kernel_rfl) rfl rfl
      intro B11 a11 W11 S11
      replace S11 : Sta w 36 [(6, (.row 39 2 (((xss.take (k0 + 1)).flatten).length) (CE 2 (((xss.take (k0 + 1)).flatten).map Is))))] [(28, (Is (.bool true))), (25, (Ar 1 n (xss.map (fun xs => Ar 2 xs.length (xs.map Is))))), (26, (Is (.int .i64 (n : Nat)))), (27, (Is (.int .i64 k0)))] B11 a11 W11 := S11
      refine inBlkN ?_
      refine thenN ?_
      refine wp_stmt [.val (Is (.int .i64 (k0 + 1 : Nat))),
      .val (Is (.int .i64 (k0 + 1 : Nat)))] [.inr 0] [.inl 1, .inr 0, .inr 1, .inr 2] follows S11 rfl (by kernel_rfl) ?_ ?_
      · refine ⟨⟨trivial, ?_⟩, ?_⟩
        · exact owe_bin rfl (wants_all rfl) rfl (opnd_slot 3 27 rfl (by kernel_rfl)) (opnd_const _) rfl (fun ρ w h1 h2 => by exact run_add_int ρ _ _ _ w _ _ _ ⟨by omega, by omega, by omega⟩ h1 h2)
        · exact owe_move rfl (wants_all rfl) (Or.inl rfl) (opnd_op 0 34 (by kernel_rfl) rfl) rfl
      intro B12 a12 W12 S12
      replace S12 : Sta w 36 [(6, (.row 39 2 (((xss.take (k0 + 1)).flatten).length) (CE 2 (((xss.take (k0 + 1)).flatten).map Is))))] [(27, (Is (.int .i64 (k0 + 1 : Nat)))), (28, (Is (.bool true))), (25, (Ar 1 n (xss.map (fun xs => Ar 2 xs.length (xs.map Is))))), (26, (Is (.int .i64 (n : Nat))))] B12 a12 W12 := S12
      refine thenN ?_
      exact ⟨k0 + 1, ⟨by omega, B12, S12.sub [0] [2, 3, 0]⟩, by omega⟩
    · have hend : (xss.take k0).flatten = xss.flatten := by rw [List.take_of_length_le (by omega)]
      refine wp_stmt_seq [.val (Is (.bool false))] [.inr 0] [.inl 0, .inr 0, .inr 1, .inr 2] follows S8 rfl (by kernel_rfl) ?_ ?_
      · refine ⟨trivial, ?_⟩
        · exact owe_bin rfl (wants_all rfl) rfl (opnd_slot 2 27 rfl (by kernel_rfl)) (opnd_slot 1 26 rfl (by kernel_rfl)) rfl (fun ρ w h1 h2 => by exact run_lss_int_f ρ _ _ _ w _ _ (by omega) h1 h2)
      intro B9 a9 W9 S9
      replace S9 : Sta w 36 [(6, (.row 39 2 (((xss.take k0).flatten).length) (CE 2 (((xss.take k0).flatten).map Is))))] [(28, (Is (.bool false))), (25, (Ar 1 n (xss.map (fun xs => Ar 2 xs.length (xs.map Is))))), (26, (Is (.int .i64 (n : Nat)))), (27, (Is (.int .i64 k0)))] B9 a9 W9 := S9
      refine wp_seq ?_
      refine wp_cond_false (S9.bool 0 28 rfl) ?_
      refine wp_exit ?_
      refine thenX ?_
      refine thenX ?_
      refine inBlkE ?_
      refine thenN ?_
      obtain ⟨B10, S10⟩ : ∃ Bq, Sta w 36 [] [(6, ((LF 2 (xss.flatten.length) (xss.flatten.map IS)) w.heap.size)), (28, (Is (.bool false))), (25, (Ar 1 n (xss.map (fun xs => Ar 2 xs.length (xs.map Is))))), (26, (Is (.int .i64 (n : Nat)))), (27, (Is (.int .i64 k0)))] Bq a9 W9 := ⟨_, S9.freeze 0 rfl (by simp) (fun v w' xs ho hc => by rw [hend] at ho hc; exact row_lf (ψs := xss.flatten.map IS) (by decide) v w' xs ho (by rw [List.map_map]; exact hc))⟩
      obtain ⟨a10, W10, e1, e2⟩ : ∃ a W, a9 = a ∧ W9 = W := ⟨_, _, rfl, rfl⟩
      rw [e1, e2] at S10 ⊢
      clear e1 e2
      refine wp_stmt_seq [.val ((LF 2 (xss.flatten.length) (xss.flatten.map IS)) w.heap.size),
      .val ((LF 2 (xss.flatten.length) (xss.flatten.map IS)) w.heap.size)] [] [.inl 1, .inr 0, .inr 1, .inr 2, .inr 3, .inr 4] follows S10 rfl (by kernel_rfl) ?_ ?_
      · refine ⟨⟨trivial, ?_⟩, ?_⟩
        · exact owe_move rfl (wants_all rfl) (Or.inl rfl) (opnd_slot 0 6 rfl (by kernel_rfl)) rfl
        · exact owe_move rfl (wants_all rfl) (Or.inr rfl) (opnd_op 0 35 (by kernel_rfl) rfl) rfl
      intro B11 a11 W11 S11
      replace S11 : Sta w 36 [] [(2, ((LF 2 (xss.flatten.length) (xss.flatten.map IS)) w.heap.size)), (6, ((LF 2 (xss.flatten.length) (xss.flatten.map IS)) w.heap.size)), (28, (Is (.bool false))), (25, (Ar 1 n (xss.map (fun xs => Ar 2 xs.length (xs.map Is))))), (26, (Is (.int .i64 (n : Nat)))), (27, (Is (.int .i64 k0)))] B11 a11 W11 := S11
      refine wp_ret ?_
      exact end_one S11 rfl (res_tmp S11 0 2 rfl)

set_option maxHeartbeats 400000 in
theorem form1_w (w : World) (u : Value) (n : Nat) (φs : List Pr) (h : Hs w (Ar 2 n φs) u) :
    Calls Try.prog 54 #[u] w (Gives (IS (.int .i64 (n : Nat))) w) := by
  refine calls_sta (sl := [(0, (Ar 2 n φs))]) Try.func54 rfl Try.ntmps54 (by simp) (args_cons rfl (h) args_nil) ?_
  intro a0 S0
  refine wp_stmt_seq [.val (Is (.int .i64 0))] [] [.inl 0, .inr 0] follows S0 rfl (by kernel_rfl) ?_ ?_
  · refine ⟨trivial, ?_⟩
    · exact owe_move rfl (wants_all rfl) (Or.inr rfl) (opnd_const _) rfl
  intro B1 a1 W1 S1
  replace S1 : Sta w 5 [] [(2, (Is (.int .i64 0))), (0, (Ar 2 n φs))] B1 a1 W1 := S1
  refine wp_stmt_seq [.val (Ar 2 n φs),
      .val (Is (.int .i64 (n : Nat))),
      .val (Is (.int .i64 (n : Nat)))] [] [.inl 2] follows S1 rfl (by kernel_rfl) ?_ ?_
  · refine ⟨⟨⟨trivial, ?_⟩, ?_⟩, ?_⟩
    · exact owe_move rfl (wants_all rfl) (Or.inl rfl) (opnd_slot 1 0 rfl (by kernel_rfl)) rfl
    · exact owe_len rfl (wants_all rfl) rfl (opnd_op 0 3 (by kernel_rfl) rfl) ar_len Try.underlying36 rfl
    · exact owe_move rfl (wants_all rfl) (Or.inr rfl) (opnd_op 1 4 (by kernel_rfl) rfl) rfl
  intro B2 a2 W2 S2
  replace S2 : Sta w 5 [] [(2, (Is (.int .i64 (n : Nat))))] B2 a2 W2 := S2
  refine wp_ret ?_
  exact end_one S2 rfl (res_tmp S2 0 2 rfl)

set_option maxHeartbeats 400000 in
theorem each2_w (w : World) (u f : Value) (n : Nat) (φs : List Pr) (ψs : List (Nat → Pr)) (hl : φs.length = n) (hl' : ψs.length = n) (h : Hs w (Ar 1 n φs) u) (hf : Hs w (Fn1 φs ψs) f) (hS : ∀ (i : Nat) φ, φs[i]? = some φ → Cel 1 φ) (hψ : ∀ (i : Nat) ψ, ψs[i]? = some ψ → Fresh ψ ∧ ∀ lo, Cel 1 (ψ lo)) (hn : n ≤ 1048576) :
    Calls Try.prog 53 #[u, f] w (Gives (LF 1 n ψs) w) := by
  refine calls_sta (sl := [(0, (Ar 1 n φs)), (1, (Fn1 φs ψs))]) Try.func53 rfl Try.ntmps53 (by simp) (args_cons rfl (h) (args_cons rfl (hf) args_nil)) ?_
  intro a0 S0
  refine wp_stmt_seq [.val (Is (.slice none 0 0))] [] [.inl 0, .inr 0, .inr 1] follows S0 rfl (by kernel_rfl) ?_ ?_
  · refine ⟨trivial, ?_⟩
    · exact owe_move rfl (wants_all rfl) (Or.inr rfl) (opnd_const _) rfl
  intro B1 a1 W1 S1
  replace S1 : Sta w 26 [] [(4, (Is (.slice none 0 0))), (0, (Ar 1 n φs)), (1, (Fn1 φs ψs))] B1 a1 W1 := S1
  refine wp_stmt_seq [.val (Ar 1 n φs),
      .val (Is (.int .i64 (n : Nat))),
      .new (.row 3 1 n (CE 1 (List.replicate n (Is (.int .i64 0))))),
      .ref 2] [.inl 3] [.inr 0, .inr 1, .inr 2] follows S1 rfl (by kernel_rfl) ?_ ?_
  · refine ⟨⟨⟨⟨trivial, ?_⟩, ?_⟩, ?_⟩, ?_⟩
    · exact owe_move rfl (wants_all rfl) (Or.inl rfl) (opnd_slot 1 0 rfl (by kernel_rfl)) rfl
    · exact owe_len rfl (wants_all rfl) rfl (opnd_op 0 8 (by kernel_rfl) rfl) ar_len Try.underlying22 rfl
    · exact owe_makeE rfl (wants_all rfl) rfl Try.underlying67 infoI (celv_one rfl) (by decide) (opnd_op 1 9 (by kernel_rfl) rfl) ⟨by omega, by unfold maxLen; omega⟩ rfl
    · exact owe_ref 2 rfl (wants_all rfl) (Or.inr rfl) (by kernel_rfl) rfl rfl
  intro B2 a2 W2 S2
  replace S2 : Sta w 26 [(5, (.row 3 1 n (CE 1 (List.replicate n (Is (.int .i64 0))))))] [(4, (Is (.slice none 0 0))), (0, (Ar 1 n φs)), (1, (Fn1 φs ψs))] B2 a2 W2 := S2
  refine wp_seq ?_
  refine wp_stmt_seq [.val (Ar 1 n φs),
      .val (Is (.int .i64 (n : Nat))),
      .val (Is (.int .i64 0))] [.inr 0] [.inl 0, .inl 1, .inl 2, .inr 0, .inr 1, .inr 2] follows S2 rfl (by kernel_rfl) ?_ ?_
  · refine ⟨⟨⟨trivial, ?_⟩, ?_⟩, ?_⟩
    · exact owe_move rfl (wants_all rfl) (Or.inl rfl) (opnd_slot 1 0 rfl (by kernel_rfl)) rfl
    · exact owe_len rfl (wants_all rfl) rfl (opnd_op 0 11 (by kernel_rfl) rfl) ar_len Try.underlying22 rfl
    · exact owe_move rfl (wants_all rfl) (Or.inl rfl) (opnd_const _) rfl
  intro B3 a3 W3 S3
  replace S3 : Sta w 26 [(5, (.row 3 1 n (CE 1 (List.replicate n (Is (.int .i64 0))))))] [(11, (Ar 1 n φs)), (12, (Is (.int .i64 (n : Nat)))), (13, (Is (.int .i64 0))), (4, (Is (.slice none 0 0))), (0, (Ar 1 n φs)), (1, (Fn1 φs ψs))] B3 a3 W3 := S3
  refine wp_block ?_
  refine wp_loop_ghost (fun (k : Nat) a W => (k ≤ n) ∧ ∃ Bq, Sta w 26 [(5, (.row 3 1 n (CE 1 ((ψs.map (· w.heap.size)).take k ++ List.replicate (n - k) (Is (.int .i64 0))))))] [(11, (Ar 1 n φs)), (12, (Is (.int .i64 (n : Nat)))), (13, (Is (.int .i64 k))), (1, (Fn1 φs ψs))] Bq a W) (fun (k : Nat) => n - k) ?_ 0 ⟨Nat.zero_le _, B3, S3.sub [0] [0, 1, 2, 5]⟩
  rintro k a4 W4 ⟨hcond, B4, S4⟩
  by_cases hlt : k < n
  · obtain ⟨φ, hφ⟩ : ∃ φ, φs[k]? = some φ := ⟨φs[k]'(by omega), List.getElem?_eq_getElem _⟩
    obtain ⟨ψ, hψk⟩ : ∃ ψ, ψs[k]? = some ψ := ⟨ψs[k]'(by omega), List.getElem?_eq_getElem _⟩
    have hset := set_next (z := Is (.int .i64 0)) (xs := (ψs.map (· w.heap.size))) (n := n) (by simp [hl']) (map_get' (· w.heap.size) hψk)
    refine wp_stmt_seq [.val (Is (.bool true))] [.inr 0] [.inl 0, .inr 0, .inr 1, .inr 2, .inr 3] follows S4 rfl (by kernel_rfl) ?_ ?_
    · refine ⟨trivial, ?_⟩
      · exact owe_bin rfl (wants_all rfl) rfl (opnd_slot 2 13 rfl (by kernel_rfl)) (opnd_slot 1 12 rfl (by kernel_rfl)) rfl (fun ρ w h1 h2 => by exact run_lss_int_t ρ _ _ _ w _ _ (by omega) h1 h2)
    intro B5 a5 W5 S5
    replace S5 : Sta w 26 [(5, (.row 3 1 n (CE 1 ((ψs.map (· w.heap.size)).take k ++ List.replicate (n - k) (Is (.int .i64 0))))))] [(14, (Is (.bool true))), (11, (Ar 1 n φs)), (12, (Is (.int .i64 (n : Nat)))), (13, (Is (.int .i64 k))), (1, (Fn1 φs ψs))] B5 a5 W5 := S5
    refine wp_seq ?_
    refine wp_cond_true (S5.bool 0 14 rfl) ?_
    refine wp_skip ?_
    refine thenN ?_
    refine wp_seq ?_
    refine wp_block ?_
    refine wp_stmt_seq [.val (Is (.int .i64 k)),
      .val (AtE 1 φ),
      .val φ,
      .val (Is (.int .i64 k)),
      .val φ] [.inr 0] [.inl 3, .inl 4, .inr 0, .inr 1, .inr 2, .inr 3, .inr 4] follows S5 rfl (by kernel_rfl) ?_ ?_
    · refine ⟨⟨⟨⟨⟨trivial, ?_⟩, ?_⟩, ?_⟩, ?_⟩, ?_⟩
      · exact owe_move rfl (wants_all rfl) (Or.inl rfl) (opnd_slot 3 13 rfl (by kernel_rfl)) rfl
      · exact owe_aindex rfl (wants_all rfl) rfl idx_rows (opnd_slot 1 11 rfl (by kernel_rfl)) (opnd_slot 3 13 rfl (by kernel_rfl)) hφ rfl
      · exact owe_aload rfl (wants_all rfl) rfl ldr_row1 (by decide) (hS k φ hφ) (opnd_op 1 16 (by kernel_rfl) rfl) rfl
      · exact owe_move rfl (wants_all rfl) (Or.inr rfl) (opnd_op 0 15 (by kernel_rfl) rfl) rfl
      · exact owe_move rfl (wants_all rfl) (Or.inr rfl) (opnd_op 2 17 (by kernel_rfl) rfl) rfl
    intro B6 a6 W6 S6
    replace S6 : Sta w 26 [(5, (.row 3 1 n (CE 1 ((ψs.map (· w.heap.size)).take k ++ List.replicate (n - k) (Is (.int .i64 0))))))] [(6, (Is (.int .i64 k))), (7, φ), (14, (Is (.bool true))), (11, (Ar 1 n φs)), (12, (Is (.int .i64 (n : Nat)))), (13, (Is (.int .i64 k))), (1, (Fn1 φs ψs))] B6 a6 W6 := S6
    refine wp_stmt [.val (Is (a6.eval (.tmp 5))),
      .val (Is (.int .i64 k)),
      .val (Fn1 φs ψs),
      .val φ,
      .val (ψ w.heap.size),
      .val (REt a6 5 (1 * k)),
      .put (.inl 5) (.row 3 1 n (CE 1 ((ψs.map (· w.heap.size)).take (k + 1) ++ List.replicate (n - (k + 1)) (Is (.int .i64 0)))))] [.inr 0] [.inr 2, .inr 3, .inr 4, .inr 5, .inr 6] follows S6 rfl (by kernel_rfl) ?_ ?_
    · refine ⟨⟨⟨⟨⟨⟨⟨trivial, ?_⟩, ?_⟩, ?_⟩, ?_⟩, ?_⟩, ?_⟩, ?_⟩
      · exact owe_same rfl (wants_all rfl) (Or.inl rfl) (by kernel_rfl) rfl
      · exact owe_move rfl (wants_all rfl) (Or.inl rfl) (opnd_slot 0 6 rfl (by kernel_rfl)) rfl
      · exact owe_move rfl (wants_all rfl) (Or.inl rfl) (opnd_slot 6 1 rfl (by kernel_rfl)) rfl
      · exact owe_move rfl (wants_all rfl) (Or.inl rfl) (opnd_slot 1 7 rfl (by kernel_rfl)) rfl
      · exact owe_callv1 k rfl (wants_all rfl) rfl (opnd_op 2 20 (by kernel_rfl) rfl) hφ hψk (opnd_op 3 21 (by kernel_rfl) rfl) (hψ k ψ hψk).1 rfl
      · exact owe_rindexE rfl (wants_all rfl) rfl idx_is (opnd_op 0 18 (by kernel_rfl) rfl) (k := 0) rfl (by kernel_rfl) (opnd_op 1 19 (by kernel_rfl) rfl) hlt rfl
      · exact owe_rstoreE rfl (wants_all rfl) rfl sto_i1 (by decide) (opnd_op 5 23 (by kernel_rfl) rfl) (k := 0) rfl (by kernel_rfl) (opnd_op 4 22 (by kernel_rfl) rfl) ((hψ k ψ hψk).2 _) hlt (by rw [hset]; rfl)
    intro B7 a7 W7 S7
    replace S7 : Sta w 26 [(5, (.row 3 1 n (CE 1 ((ψs.map (· w.heap.size)).take (k + 1) ++ List.replicate (n - (k + 1)) (Is (.int .i64 0))))))] [(14, (Is (.bool true))), (11, (Ar 1 n φs)), (12, (Is (.int .i64 (n : Nat)))), (13, (Is (.int .i64 k))), (1, (Fn1 φs ψs))] B7 a7 W7 := S7
    refine inBlkN ?_
    refine thenN ?_
    refine wp_stmt [.val (Is (.int .i64 (k + 1 : Nat))),
      .val (Is (.int .i64 (k + 1 : Nat)))] [.inr 0] [.inl 1, .inr 0, .inr 1, .inr 2, .inr 4] follows S7 rfl (by kernel_rfl) ?_ ?_
    · refine ⟨⟨trivial, ?_⟩, ?_⟩
      · exact owe_bin rfl (wants_all rfl) rfl (opnd_slot 3 13 rfl (by kernel_rfl)) (opnd_const _) rfl (fun ρ w h1 h2 => by exact run_add_int ρ _ _ _ w _ _ _ ⟨by omega, by omega, by omega⟩ h1 h2)
      · exact owe_move rfl (wants_all rfl) (Or.inl rfl) (opnd_op 0 24 (by kernel_rfl) rfl) rfl
    intro B8 a8 W8 S8
    replace S8 : Sta w 26 [(5, (.row 3 1 n (CE 1 ((ψs.map (· w.heap.size)).take (k + 1) ++ List.replicate (n - (k + 1)) (Is (.int .i64 0))))))] [(13, (Is (.int .i64 (k + 1 : Nat)))), (14, (Is (.bool true))), (11, (Ar 1 n φs)), (12, (Is (.int .i64 (n : Nat)))), (1, (Fn1 φs ψs))] B8 a8 W8 := S8
    refine thenN ?_
    exact ⟨k + 1, ⟨by omega, B8, S8.sub [0] [2, 3, 0, 4]⟩, by omega⟩
  · have hend := fill_end (z := Is (.int .i64 0)) (xs := (ψs.map (· w.heap.size))) (n := n) (k := k) (by simp [hl']) (by omega)
    refine wp_stmt_seq [.val (Is (.bool false))] [.inr 0] [.inl 0, .inr 0, .inr 1, .inr 2, .inr 3] follows S4 rfl (by kernel_rfl) ?_ ?_
    · refine ⟨trivial, ?_⟩
      · exact owe_bin rfl (wants_all rfl) rfl (opnd_slot 2 13 rfl (by kernel_rfl)) (opnd_slot 1 12 rfl (by kernel_rfl)) rfl (fun ρ w h1 h2 => by exact run_lss_int_f ρ _ _ _ w _ _ (by omega) h1 h2)
    intro B5 a5 W5 S5
    replace S5 : Sta w 26 [(5, (.row 3 1 n (CE 1 ((ψs.map (· w.heap.size)).take k ++ List.replicate (n - k) (Is (.int .i64 0))))))] [(14, (Is (.bool false))), (11, (Ar 1 n φs)), (12, (Is (.int .i64 (n : Nat)))), (13, (Is (.int .i64 k))), (1, (Fn1 φs ψs))] B5 a5 W5 := S5
    refine wp_seq ?_
    refine wp_cond_false (S5.bool 0 14 rfl) ?_
    refine wp_exit ?_
    refine thenX ?_
    refine thenX ?_
    refine inBlkE ?_
    refine thenN ?_
    obtain ⟨B6, S6⟩ : ∃ Bq, Sta w 26 [] [(5, ((LF 1 n ψs) w.heap.size)), (14, (Is (.bool false))), (11, (Ar 1 n φs)), (12, (Is (.int .i64 (n : Nat)))), (13, (Is (.int .i64 k))), (1, (Fn1 φs ψs))] Bq a5 W5 := ⟨_, S5.freeze 0 rfl (by simp) (fun v w' xs ho hc => row_lf (by decide) v w' xs ho (by rw [hend] at hc; exact hc))⟩
    obtain ⟨a6, W6, e1, e2⟩ : ∃ a W, a5 = a ∧ W5 = W := ⟨_, _, rfl, rfl⟩
    rw [e1, e2] at S6 ⊢
    clear e1 e2
    refine wp_stmt_seq [.val ((LF 1 n ψs) w.heap.size),
      .val ((LF 1 n ψs) w.heap.size)] [] [.inl 1, .inr 0, .inr 1, .inr 2, .inr 3, .inr 4, .inr 5] follows S6 rfl (by kernel_rfl) ?_ ?_
    · refine ⟨⟨trivial, ?_⟩, ?_⟩
      · exact owe_move rfl (wants_all rfl) (Or.inl rfl) (opnd_slot 0 5 rfl (by kernel_rfl)) rfl
      · exact owe_move rfl (wants_all rfl) (Or.inr rfl) (opnd_op 0 25 (by kernel_rfl) rfl) rfl
    intro B7 a7 W7 S7
    replace S7 : Sta w 26 [] [(4, ((LF 1 n ψs) w.heap.size)), (5, ((LF 1 n ψs) w.heap.size)), (14, (Is (.bool false))), (11, (Ar 1 n φs)), (12, (Is (.int .i64 (n : Nat)))), (13, (Is (.int .i64 k))), (1, (Fn1 φs ψs))] B7 a7 W7 := S7
    refine wp_ret ?_
    exact end_one S7 rfl (res_tmp S7 0 4 rfl)

set_option maxHeartbeats 400000 in
theorem each3_w (w : World) (u f : Value) (n : Nat) (φs : List Pr) (ψs : List (Nat → Pr)) (hl : φs.length = n) (hl' : ψs.length = n) (h : Hs w (Ar 1 n φs) u) (hf : Hs w (Fn1 φs ψs) f) (hS : ∀ (i : Nat) φ, φs[i]? = some φ → Cel 1 φ) (hψ : ∀ (i : Nat) ψ, ψs[i]? = some ψ → Fresh ψ ∧ ∀ lo, Cel 1 (ψ lo)) (hn : n ≤ 1048576) :
    Calls Try.prog 86 #[u, f] w (Gives (LF 1 n ψs) w) := by
  refine calls_sta (sl := [(0, (Ar 1 n φs)), (1, (Fn1 φs ψs))]) Try.func86 rfl Try.ntmps86 (by simp) (args_cons rfl (h) (args_cons rfl (hf) args_nil)) ?_
  intro a0 S0
  refine wp_stmt_seq [.val (Is (.slice none 0 0))] [] [.inl 0, .inr 0, .inr 1] follows S0 rfl (by kernel_rfl) ?_ ?_
  · refine ⟨trivial, ?_⟩
    · exact owe_move rfl (wants_all rfl) (Or.inr rfl) (opnd_const _) rfl
  intro B1 a1 W1 S1
  replace S1 : Sta w 26 [] [(4, (Is (.slice none 0 0))), (0, (Ar 1 n φs)), (1, (Fn1 φs ψs))] B1 a1 W1 := S1
  refine wp_stmt_seq [.val (Ar 1 n φs),
      .val (Is (.int .i64 (n : Nat))),
      .new (.row 36 1 n (CE 1 (List.replicate n (Is (.slice none 0 0))))),
      .ref 2] [.inl 3] [.inr 0, .inr 1, .inr 2] follows S1 rfl (by kernel_rfl) ?_ ?_
  · refine ⟨⟨⟨⟨trivial, ?_⟩, ?_⟩, ?_⟩, ?_⟩
    · exact owe_move rfl (wants_all rfl) (Or.inl rfl) (opnd_slot 1 0 rfl (by kernel_rfl)) rfl
    · exact owe_len rfl (wants_all rfl) rfl (opnd_op 0 8 (by kernel_rfl) rfl) ar_len Try.underlying67 rfl
    · exact owe_makeE rfl (wants_all rfl) rfl Try.underlying22 infoRow (celv_one rfl) (by decide) (opnd_op 1 9 (by kernel_rfl) rfl) ⟨by omega, by unfold maxLen; omega⟩ rfl
    · exact owe_ref 2 rfl (wants_all rfl) (Or.inr rfl) (by kernel_rfl) rfl rfl
  intro B2 a2 W2 S2
  replace S2 : Sta w 26 [(5, (.row 36 1 n (CE 1 (List.replicate n (Is (.slice none 0 0))))))] [(4, (Is (.slice none 0 0))), (0, (Ar 1 n φs)), (1, (Fn1 φs ψs))] B2 a2 W2 := S2
  refine wp_seq ?_
  refine wp_stmt_seq [.val (Ar 1 n φs),
      .val (Is (.int .i64 (n : Nat))),
      .val (Is (.int .i64 0))] [.inr 0] [.inl 0, .inl 1, .inl 2, .inr 0, .inr 1, .inr 2] follows S2 rfl (by kernel_rfl) ?_ ?_
  · refine ⟨⟨⟨trivial, ?_⟩, ?_⟩, ?_⟩
    · exact owe_move rfl (wants_all rfl) (Or.inl rfl) (opnd_slot 1 0 rfl (by kernel_rfl)) rfl
    · exact owe_len rfl (wants_all rfl) rfl (opnd_op 0 11 (by kernel_rfl) rfl) ar_len Try.underlying67 rfl
    · exact owe_move rfl (wants_all rfl) (Or.inl rfl) (opnd_const _) rfl
  intro B3 a3 W3 S3
  replace S3 : Sta w 26 [(5, (.row 36 1 n (CE 1 (List.replicate n (Is (.slice none 0 0))))))] [(11, (Ar 1 n φs)), (12, (Is (.int .i64 (n : Nat)))), (13, (Is (.int .i64 0))), (4, (Is (.slice none 0 0))), (0, (Ar 1 n φs)), (1, (Fn1 φs ψs))] B3 a3 W3 := S3
  refine wp_block ?_
  refine wp_loop_ghost (fun (k : Nat) a W => (k ≤ n) ∧ ∃ Bq, Sta w 26 [(5, (.row 36 1 n (CE 1 ((ψs.map (· w.heap.size)).take k ++ List.replicate (n - k) (Is (.slice none 0 0))))))] [(11, (Ar 1 n φs)), (12, (Is (.int .i64 (n : Nat)))), (13, (Is (.int .i64 k))), (1, (Fn1 φs ψs))] Bq a W) (fun (k : Nat) => n - k) ?_ 0 ⟨Nat.zero_le _, B3, S3.sub [0] [0, 1, 2, 5]⟩
  rintro k a4 W4 ⟨hcond, B4, S4⟩
  by_cases hlt : k < n
  · obtain ⟨φ, hφ⟩ : ∃ φ, φs[k]? = some φ := ⟨φs[k]'(by omega), List.getElem?_eq_getElem _⟩
    obtain ⟨ψ, hψk⟩ : ∃ ψ, ψs[k]? = some ψ := ⟨ψs[k]'(by omega), List.getElem?_eq_getElem _⟩
    have hset := set_next (z := Is (.slice none 0 0)) (xs := (ψs.map (· w.heap.size))) (n := n) (by simp [hl']) (map_get' (· w.heap.size) hψk)
    refine wp_stmt_seq [.val (Is (.bool true))] [.inr 0] [.inl 0, .inr 0, .inr 1, .inr 2, .inr 3] follows S4 rfl (by kernel_rfl) ?_ ?_
    · refine ⟨trivial, ?_⟩
      · exact owe_bin rfl (wants_all rfl) rfl (opnd_slot 2 13 rfl (by kernel_rfl)) (opnd_slot 1 12 rfl (by kernel_rfl)) rfl (fun ρ w h1 h2 => by exact run_lss_int_t ρ _ _ _ w _ _ (by omega) h1 h2)
    intro B5 a5 W5 S5
    replace S5 : Sta w 26 [(5, (.row 36 1 n (CE 1 ((ψs.map (· w.heap.size)).take k ++ List.replicate (n - k) (Is (.slice none 0 0))))))] [(14, (Is (.bool true))), (11, (Ar 1 n φs)), (12, (Is (.int .i64 (n : Nat)))), (13, (Is (.int .i64 k))), (1, (Fn1 φs ψs))] B5 a5 W5 := S5
    refine wp_seq ?_
    refine wp_cond_true (S5.bool 0 14 rfl) ?_
    refine wp_skip ?_
    refine thenN ?_
    refine wp_seq ?_
    refine wp_block ?_
    refine wp_stmt_seq [.val (Is (.int .i64 k)),
      .val (AtE 1 φ),
      .val φ,
      .val (Is (.int .i64 k)),
      .val φ] [.inr 0] [.inl 3, .inl 4, .inr 0, .inr 1, .inr 2, .inr 3, .inr 4] follows S5 rfl (by kernel_rfl) ?_ ?_
    · refine ⟨⟨⟨⟨⟨trivial, ?_⟩, ?_⟩, ?_⟩, ?_⟩, ?_⟩
      · exact owe_move rfl (wants_all rfl) (Or.inl rfl) (opnd_slot 3 13 rfl (by kernel_rfl)) rfl
      · exact owe_aindex rfl (wants_all rfl) rfl idx_is (opnd_slot 1 11 rfl (by kernel_rfl)) (opnd_slot 3 13 rfl (by kernel_rfl)) hφ rfl
      · exact owe_aload rfl (wants_all rfl) rfl ldr_i1 (by decide) (hS k φ hφ) (opnd_op 1 16 (by kernel_rfl) rfl) rfl
      · exact owe_move rfl (wants_all rfl) (Or.inr rfl) (opnd_op 0 15 (by kernel_rfl) rfl) rfl
      · exact owe_move rfl (wants_all rfl) (Or.inr rfl) (opnd_op 2 17 (by kernel_rfl) rfl) rfl
    intro B6 a6 W6 S6
    replace S6 : Sta w 26 [(5, (.row 36 1 n (CE 1 ((ψs.map (· w.heap.size)).take k ++ List.replicate (n - k) (Is (.slice none 0 0))))))] [(6, (Is (.int .i64 k))), (7, φ), (14, (Is (.bool true))), (11, (Ar 1 n φs)), (12, (Is (.int .i64 (n : Nat)))), (13, (Is (.int .i64 k))), (1, (Fn1 φs ψs))] B6 a6 W6 := S6
    refine wp_stmt [.val (Is (a6.eval (.tmp 5))),
      .val (Is (.int .i64 k)),
      .val (Fn1 φs ψs),
      .val φ,
      .val (ψ w.heap.size),
      .val (REt a6 5 (1 * k)),
      .put (.inl 5) (.row 36 1 n (CE 1 ((ψs.map (· w.heap.size)).take (k + 1) ++ List.replicate (n - (k + 1)) (Is (.slice none 0 0)))))] [.inr 0] [.inr 2, .inr 3, .inr 4, .inr 5, .inr 6] follows S6 rfl (by kernel_rfl) ?_ ?_
    · refine ⟨⟨⟨⟨⟨⟨⟨trivial, ?_⟩, ?_⟩, ?_⟩, ?_⟩, ?_⟩, ?_⟩, ?_⟩
      · exact owe_same rfl (wants_all rfl) (Or.inl rfl) (by kernel_rfl) rfl
      · exact owe_move rfl (wants_all rfl) (Or.inl rfl) (opnd_slot 0 6 rfl (by kernel_rfl)) rfl
      · exact owe_move rfl (wants_all rfl) (Or.inl rfl) (opnd_slot 6 1 rfl (by kernel_rfl)) rfl
      · exact owe_move rfl (wants_all rfl) (Or.inl rfl) (opnd_slot 1 7 rfl (by kernel_rfl)) rfl
      · exact owe_callv1 k rfl (wants_all rfl) rfl (opnd_op 2 20 (by kernel_rfl) rfl) hφ hψk (opnd_op 3 21 (by kernel_rfl) rfl) (hψ k ψ hψk).1 rfl
      · exact owe_rindexE rfl (wants_all rfl) rfl idx_rows (opnd_op 0 18 (by kernel_rfl) rfl) (k := 0) rfl (by kernel_rfl) (opnd_op 1 19 (by kernel_rfl) rfl) hlt rfl
      · exact owe_rstoreE rfl (wants_all rfl) rfl sto_row1 (by decide) (opnd_op 5 23 (by kernel_rfl) rfl) (k := 0) rfl (by kernel_rfl) (opnd_op 4 22 (by kernel_rfl) rfl) ((hψ k ψ hψk).2 _) hlt (by rw [hset]; rfl)
    intro B7 a7 W7 S7
    replace S7 : Sta w 26 [(5, (.row 36 1 n (CE 1 ((ψs.map (· w.heap.size)).take (k + 1) ++ List.replicate (n - (k + 1)) (Is (.slice none 0 0))))))] [(14, (Is (.bool true))), (11, (Ar 1 n φs)), (12, (Is (.int .i64 (n : Nat)))), (13, (Is (.int .i64 k))), (1, (Fn1 φs ψs))] B7 a7 W7 := S7
    refine inBlkN ?_
    refine thenN ?_
    refine wp_stmt [.val (Is (.int .i64 (k + 1 : Nat))),
      .val (Is (.int .i64 (k + 1 : Nat)))] [.inr 0] [.inl 1, .inr 0, .inr 1, .inr 2, .inr 4] follows S7 rfl (by kernel_rfl) ?_ ?_
    · refine ⟨⟨trivial, ?_⟩, ?_⟩
      · exact owe_bin rfl (wants_all rfl) rfl (opnd_slot 3 13 rfl (by kernel_rfl)) (opnd_const _) rfl (fun ρ w h1 h2 => by exact run_add_int ρ _ _ _ w _ _ _ ⟨by omega, by omega, by omega⟩ h1 h2)
      · exact owe_move rfl (wants_all rfl) (Or.inl rfl) (opnd_op 0 24 (by kernel_rfl) rfl) rfl
    intro B8 a8 W8 S8
    replace S8 : Sta w 26 [(5, (.row 36 1 n (CE 1 ((ψs.map (· w.heap.size)).take (k + 1) ++ List.replicate (n - (k + 1)) (Is (.slice none 0 0))))))] [(13, (Is (.int .i64 (k + 1 : Nat)))), (14, (Is (.bool true))), (11, (Ar 1 n φs)), (12, (Is (.int .i64 (n : Nat)))), (1, (Fn1 φs ψs))] B8 a8 W8 := S8
    refine thenN ?_
    exact ⟨k + 1, ⟨by omega, B8, S8.sub [0] [2, 3, 0, 4]⟩, by omega⟩
  · have hend := fill_end (z := Is (.slice none 0 0)) (xs := (ψs.map (· w.heap.size))) (n := n) (k := k) (by simp [hl']) (by omega)
    refine wp_stmt_seq [.val (Is (.bool false))] [.inr 0] [.inl 0, .inr 0, .inr 1, .inr 2, .inr 3] follows S4 rfl (by kernel_rfl) ?_ ?_
    · refine ⟨trivial, ?_⟩
      · exact owe_bin rfl (wants_all rfl) rfl (opnd_slot 2 13 rfl (by kernel_rfl)) (opnd_slot 1 12 rfl (by kernel_rfl)) rfl (fun ρ w h1 h2 => by exact run_lss_int_f ρ _ _ _ w _ _ (by omega) h1 h2)
    intro B5 a5 W5 S5
    replace S5 : Sta w 26 [(5, (.row 36 1 n (CE 1 ((ψs.map (· w.heap.size)).take k ++ List.replicate (n - k) (Is (.slice none 0 0))))))] [(14, (Is (.bool false))), (11, (Ar 1 n φs)), (12, (Is (.int .i64 (n : Nat)))), (13, (Is (.int .i64 k))), (1, (Fn1 φs ψs))] B5 a5 W5 := S5
    refine wp_seq ?_
    refine wp_cond_false (S5.bool 0 14 rfl) ?_
    refine wp_exit ?_
    refine thenX ?_
    refine thenX ?_
    refine inBlkE ?_
    refine thenN ?_
    obtain ⟨B6, S6⟩ : ∃ Bq, Sta w 26 [] [(5, ((LF 1 n ψs) w.heap.size)), (14, (Is (.bool false))), (11, (Ar 1 n φs)), (12, (Is (.int .i64 (n : Nat)))), (13, (Is (.int .i64 k))), (1, (Fn1 φs ψs))] Bq a5 W5 := ⟨_, S5.freeze 0 rfl (by simp) (fun v w' xs ho hc => row_lf (by decide) v w' xs ho (by rw [hend] at hc; exact hc))⟩
    obtain ⟨a6, W6, e1, e2⟩ : ∃ a W, a5 = a ∧ W5 = W := ⟨_, _, rfl, rfl⟩
    rw [e1, e2] at S6 ⊢
    clear e1 e2
    refine wp_stmt_seq [.val ((LF 1 n ψs) w.heap.size),
      .val ((LF 1 n ψs) w.heap.size)] [] [.inl 1, .inr 0, .inr 1, .inr 2, .inr 3, .inr 4, .inr 5] follows S6 rfl (by kernel_rfl) ?_ ?_
    · refine ⟨⟨trivial, ?_⟩, ?_⟩
      · exact owe_move rfl (wants_all rfl) (Or.inl rfl) (opnd_slot 0 5 rfl (by kernel_rfl)) rfl
      · exact owe_move rfl (wants_all rfl) (Or.inr rfl) (opnd_op 0 25 (by kernel_rfl) rfl) rfl
    intro B7 a7 W7 S7
    replace S7 : Sta w 26 [] [(4, ((LF 1 n ψs) w.heap.size)), (5, ((LF 1 n ψs) w.heap.size)), (14, (Is (.bool false))), (11, (Ar 1 n φs)), (12, (Is (.int .i64 (n : Nat)))), (13, (Is (.int .i64 k))), (1, (Fn1 φs ψs))] B7 a7 W7 := S7
    refine wp_ret ?_
    exact end_one S7 rfl (res_tmp S7 0 4 rfl)

end Go.Proofs.Ytiehipnaklkhjaa

/-
  Lists by their very values; rows that are cut out of a list.
-/
namespace Go.Proofs.Ytiehipnaklkhjaa
open Go Go.RowKit Nt
set_option linter.unusedSimpArgs false
set_option linter.unusedVariables false
set_option maxRecDepth 20000

theorem ar_is {w : World} {sz m : Nat} {φs : List Pr} {v : Value} (hz : 0 < sz) (hc : ∀ (i : Nat) φ, φs[i]? = some φ → Cel sz φ) (h : Hs w (Ar sz m φs) v) :
    ∃ us : List Value, us.length = m ∧ φs.length = m ∧ (∀ u ∈ us, Celv sz u) ∧ Hs w (Ar sz m (us.map Is)) v ∧ ∀ (i : Nat) u φ, us[i]? = some u → φs[i]? = some φ → Hs w φ u := by
  obtain ⟨p, c, us, e, hul, hfl, hcv, hnil, hcells, hall⟩ := ar_src hz hc h
  obtain ⟨p', c', e', hl', ⟨h1, h2, h3⟩, ha⟩ := id h.now
  rw [e] at e'
  cases e'
  refine ⟨us, hul, hfl, hcv, fun w' ev => ⟨p, c, e, by simp [hul], ⟨h1, h2, h3⟩, fun i φ hφ => ?_⟩, fun i u φ hu hφ w' ev => hall w' ev i u φ hu hφ⟩
  obtain ⟨u, hu, rfl⟩ := map_get hφ
  have hlt := (List.getElem?_eq_some_iff.1 hu).1
  obtain ⟨b, o, u', hp, _⟩ := ha i (φs[i]'(by omega)) (List.getElem?_eq_getElem _)
  have hcu := hcv u (List.mem_of_getElem? hu)
  refine ⟨b, o, u, hp, fun j x hx => ?_, hcu.siz, rfl⟩
  have hj : j < sz := by
    have := (Array.getElem?_eq_some_iff.1 hx).1
    rw [hcu.siz] at this
    exact this
  have hg := cellsOf_get hcv hu j hj
  have := hcells _ hp (i * sz + j) x (by rw [hg]; exact hx)
  rw [addr_add] at this
  have := cell_ev this ev
  rw [Nat.mul_comm sz i, Nat.add_assoc]
  exact this
theorem flat_rel {α β : Type} {R : α → β → Prop} : ∀ (xss : List (List α)) (zss : List (List β)), (∀ (i : Nat) xs zs, xss[i]? = some xs → zss[i]? = some zs → xs.length = zs.length ∧ ∀ (j : Nat) x z, xs[j]? = some x → zs[j]? = some z → R x z) → xss.length = zss.length → xss.flatten.length = zss.flatten.length ∧ ∀ (j : Nat) x z, xss.flatten[j]? = some x → zss.flatten[j]? = some z → R x z
  | [], [], _, _ => ⟨rfl, fun j x z h => by simp at h⟩
  | [], _ :: _, _, h => by simp at h
  | _ :: _, [], _, h => by simp at h
  | xs :: xss, zs :: zss, h, hl => by
    obtain ⟨h1, h2⟩ := h 0 xs zs rfl rfl
    obtain ⟨h3, h4⟩ := flat_rel xss zss (fun i xs zs hx hz => h (i + 1) xs zs (by simpa using hx) (by simpa using hz)) (by simpa using hl)
    refine ⟨by simp only [List.flatten_cons, List.length_append]; omega, fun j x z hx hz => ?_⟩
    rw [List.flatten_cons] at hx hz
    by_cases hj : j < xs.length
    · rw [List.getElem?_append_left hj] at hx
      rw [List.getElem?_append_left (by omega)] at hz
      exact h2 j x z hx hz
    · rw [List.getElem?_append_right (by omega)] at hx hz
      rw [h1] at hx
      exact h4 _ x z hx hz
/-- A matrix of these very values, and what each is worth. -/
def Mz (n k : Nat) (A : List (List Int)) (xss : List (List Value)) : Pr := fun v w => Mq n xss v w ∧ ∀ (j : Nat) x z, xss.flatten[j]? = some x → A.flatten[j]? = some z → Zv z k x w
theorem mz_mq {n k : Nat} {A : List (List Int)} {xss : List (List Value)} : ∀ v w, Mz n k A xss v w → Mq n xss v w := fun v w h => h.1
theorem mv_mz {w : World} {n k : Nat} {A : List (List Int)} {u : Value} (h : Hs w (Mv n A k) u) :
    ∃ xss : List (List Value), xss.length = n ∧ xss.map List.length = A.map List.length ∧ xss.flatten.length = A.flatten.length ∧ (∀ xs ∈ xss, ∀ x ∈ xs, Celv 2 x) ∧ Hs w (Mz n k A xss) u := by
  obtain ⟨us, hul, hAl, hcv, hus, hall⟩ := ar_is (by decide) (fun i φ hφ => by obtain ⟨r, _, rfl⟩ := map_get hφ; exact cel_vv) h
  have hA : A.length = n := by simpa using hAl
  have each : ∀ i : Nat, ∃ xs : List Value, ∀ (r : List Int) (u : Value), A[i]? = some r → us[i]? = some u → xs.length = r.length ∧ (∀ x ∈ xs, Celv 2 x) ∧ Hs w (Ar 2 r.length (xs.map Is)) u ∧ ∀ (j : Nat) x z, xs[j]? = some x → r[j]? = some z → Hs w (Zv z k) x := fun i => by
    cases hr : A[i]? with
    | none => exact ⟨[], fun r u h => by cases h⟩
    | some r =>
      have hi : i < us.length := by
        have := (List.getElem?_eq_some_iff.1 hr).1
        omega
      obtain ⟨xs, hxl, _, hxc, hxa, hxz⟩ := ar_is (by decide) (fun j φ hφ => by obtain ⟨z, _, rfl⟩ := map_get hφ; exact cel_shp (by decide) shp_zv) (hall i us[i] _ (List.getElem?_eq_getElem hi) (map_get' (fun zs : List Int => Vv zs.length zs k) hr))
      refine ⟨xs, fun r' u h1 h2 => ?_⟩
      cases h1
      rw [List.getElem?_eq_getElem hi] at h2
      cases h2
      exact ⟨hxl, hxc, hxa, fun j x z hx hz => hxz j x _ hx (map_get' (fun z => Zv z k) hz)⟩
  obtain ⟨F, hF⟩ : ∃ F : Nat → List Value, ∀ (i : Nat) (r : List Int) (u : Value), A[i]? = some r → us[i]? = some u → (F i).length = r.length ∧ (∀ x ∈ F i, Celv 2 x) ∧ Hs w (Ar 2 r.length ((F i).map Is)) u ∧ ∀ (j : Nat) x z, (F i)[j]? = some x → r[j]? = some z → Hs w (Zv z k) x := ⟨fun i => Classical.choose (each i), fun i => Classical.choose_spec (each i)⟩
  have hget : ∀ (i : Nat) xs, ((List.range n).map F)[i]? = some xs → i < n ∧ xs = F i := fun i xs hu => by
    obtain ⟨j, hj, rfl⟩ := map_get hu
    have hi : i < n := by simpa using (List.getElem?_eq_some_iff.1 hj).1
    rw [List.getElem?_range hi] at hj
    cases hj
    exact ⟨hi, rfl⟩
  have hAt : ∀ i : Nat, i < n → ∃ (r : List Int) (u : Value), A[i]? = some r ∧ us[i]? = some u := fun i hi => ⟨A[i]'(by omega), us[i]'(by omega), List.getElem?_eq_getElem _, List.getElem?_eq_getElem _⟩
  obtain ⟨hfl, hrel⟩ := flat_rel (R := fun x z => Hs w (Zv z k) x) ((List.range n).map F) A (fun i xs zs hx hz => by
    obtain ⟨hi, rfl⟩ := hget i xs hx
    obtain ⟨r, u, h1, h2⟩ := hAt i hi
    rw [hz] at h1
    cases h1
    obtain ⟨q1, _, _, q4⟩ := hF i _ u hz h2
    exact ⟨q1, q4⟩) (by simp [hA])
  refine ⟨(List.range n).map F, by simp, ?_, hfl, fun xs hxs x hx => ?_, fun w' ev => ⟨?_, fun j x z hx hz => hrel j x z hx hz w' ev⟩⟩
  · apply List.ext_getElem (by simp [hA])
    intro i h1 h2
    have hi : i < n := by simpa using h1
    obtain ⟨r, u, hr, hu⟩ := hAt i hi
    obtain ⟨q1, _⟩ := hF i r u hr hu
    have hr' : A[i]'(by omega) = r := by
      rw [List.getElem?_eq_getElem (by omega)] at hr
      exact Option.some.inj hr
    simp [hr', q1]
  · obtain ⟨i, hi, rfl⟩ := List.mem_iff_getElem.1 hxs
    obtain ⟨hlt, e⟩ := hget i _ (List.getElem?_eq_getElem hi)
    rw [e] at hx
    obtain ⟨r, u, hr, hu⟩ := hAt i hlt
    exact (hF i r u hr hu).2.1 x hx
  · obtain ⟨p, c, e, l, b, a⟩ := hus w' ev
    refine ⟨p, c, e, by simp, b, fun i φ hφ => ?_⟩
    obtain ⟨xs, hxs, rfl⟩ := map_get hφ
    obtain ⟨hlt, rfl⟩ := hget i xs hxs
    obtain ⟨r, u, hr, hu⟩ := hAt i hlt
    obtain ⟨q1, _, q3, _⟩ := hF i r u hr hu
    obtain ⟨b', o', u', e1, e2, e3, e4⟩ := a i _ (map_get' Is hu)
    obtain rfl : u' = u := e4
    refine ⟨b', o', u', e1, e2, e3, ?_⟩
    rw [q1]
    exact q3 w' ev
theorem flat_idx {α : Type} : ∀ (A : List (List α)) (i j : Nat) (r : List α) (z : α), A[i]? = some r → r[j]? = some z → A.flatten[ahead (A.map List.length) i + j]? = some z
  | [], i, j, r, z, h, _ => by simp at h
  | a :: A, 0, j, r, z, h, hz => by
    simp at h
    subst h
    have hj := (List.getElem?_eq_some_iff.1 hz).1
    simp only [ahead, List.take_zero, List.sum_nil, Nat.zero_add, List.flatten_cons]
    rw [List.getElem?_append_left hj]
    exact hz
  | a :: A, i + 1, j, r, z, h, hz => by
    have ih := flat_idx A i j r z (by simpa using h) hz
    simp only [ahead, List.map_cons, List.take_succ_cons, List.sum_cons, List.flatten_cons] at ih ⊢
    rw [List.getElem?_append_right (by omega)]
    rw [show a.length + (List.take i (List.map List.length A)).sum + j - a.length = (List.take i (List.map List.length A)).sum + j from by omega]
    exact ih
/-- Rows that are cut out of a new list are a matrix. -/
theorem rows_mn {n g o C lo lo' : Nat} {A : List (List Int)} {v : Value} {w : World} (hn : A.length = n) (hm : A.flatten.length ≤ maxLen) (hL : ∀ (i : Nat) r, A[i]? = some r → r.length ≤ maxLen) (hlo : lo ≤ lo') (hR : Rows n g o C (A.map List.length) lo' v w) (hV : VN A.flatten.length A.flatten lo (.slice (some ⟨g, o, none⟩) A.flatten.length C) w) : MN n A lo v w := by
  obtain ⟨⟨p, c, e, l, hcc, ha⟩, hf⟩ := hR
  obtain ⟨⟨p2, c2, e2, l2, ⟨hc1, hc2, hc3⟩, ha2⟩, hf2⟩ := hV
  cases e2
  refine ⟨⟨p, c, e, by simp [hn], hcc, fun i φ hφ => ?_⟩, fun b o n c e => Nat.le_trans hlo (hf b o n c e)⟩
  obtain ⟨ψ, hψ, rfl⟩ := map_get hφ
  obtain ⟨r, hr, rfl⟩ := map_get hψ
  have hi : i < n := by rw [← hn]; exact (List.getElem?_eq_some_iff.1 hr).1
  obtain ⟨b, o', u, e1, e3, e4, e5⟩ := ha i _ (map_get' (· lo') (map_get' (fun i => IS (rowV g o C (A.map List.length) i)) (List.getElem?_range hi)))
  obtain rfl : u = _ := e5
  refine ⟨b, o', _, e1, e3, e4, ?_⟩
  have hgd : (A.map List.length).getD i 0 = r.length := by rw [List.getD_eq_getElem?_getD, map_get' List.length hr]; rfl
  have hsum : (A.map List.length).sum = A.flatten.length := by rw [List.length_flatten]
  unfold rowV
  rw [hgd]
  refine ⟨⟨_, r.length, rfl, by simp, ⟨Nat.le_refl _, hL i r hr, (fun e => by cases e)⟩, fun j φ' hφ' => ?_⟩, fun b' o' n' c' e' => by cases e'; exact hf2 _ _ _ _ rfl⟩
  obtain ⟨ψ', hψ', rfl⟩ := map_get hφ'
  obtain ⟨z, hz, rfl⟩ := map_get hψ'
  have hj := (List.getElem?_eq_some_iff.1 hz).1
  have hfi := flat_idx A i j r z hr hz
  have hq := (List.getElem?_eq_some_iff.1 hfi).1
  obtain ⟨b2, o2, y, e6, e7, e8, e9⟩ := ha2 _ _ (map_get' (· lo) (map_get' ZN hfi))
  cases e6
  refine ⟨g, _, y, rfl, fun q x hx => ?_, e8, e9⟩
  rw [stAt_pos (by rw [hsum]; exact hc1) (by omega)]
  have := e7 q x hx
  rw [show o + 2 * ahead (A.map List.length) i + 2 * j + q = o + 2 * (ahead (A.map List.length) i + j) + q from by omega]
  exact this
end Go.Proofs.Ytiehipnaklkhjaa

/-
  mat.Form.
-/
namespace Go.Proofs.Ytiehipnaklkhjaa
open Go Go.RowKit Nt
set_option linter.unusedSimpArgs false
set_option linter.unusedVariables false
set_option maxRecDepth 20000

set_option maxHeartbeats 400000 in
theorem each4_w (w : World) (u f : Value) (n : Nat) (φs : List Pr) (ψs : List (Nat → Pr)) (hl : φs.length = n) (hl' : ψs.length = n) (h : Hs w (Ar 2 n φs) u) (hf : Hs w (Fn1 φs ψs) f) (hS : ∀ (i : Nat) φ, φs[i]? = some φ → Shp 2 φ) (hψ : ∀ (i : Nat) ψ, ψs[i]? = some ψ → Fresh ψ ∧ ∀ lo, Shp 2 (ψ lo)) (hn : n ≤ 1099511627776) :
    Calls Try.prog 56 #[u, f] w (Gives (LF 2 n ψs) w) := by
  refine calls_sta (sl := [(0, (Ar 2 n φs)), (1, (Fn1 φs ψs))]) Try.func56 rfl Try.ntmps56 (by simp) (args_cons rfl (h) (args_cons rfl (hf) args_nil)) ?_
  intro a0 S0
  refine wp_stmt_seq [.val (Is (.slice none 0 0))] [] [.inl 0, .inr 0, .inr 1] follows S0 rfl (by kernel_rfl) ?_ ?_
  · refine ⟨trivial, ?_⟩
    · exact owe_move rfl (wants_all rfl) (Or.inr rfl) (opnd_const _) rfl
  intro B1 a1 W1 S1
  replace S1 : Sta w 26 [] [(4, (Is (.slice none 0 0))), (0, (Ar 2 n φs)), (1, (Fn1 φs ψs))] B1 a1 W1 := S1
  refine wp_stmt_seq [.val (Ar 2 n φs),
      .val (Is (.int .i64 (n : Nat))),
      .new (.row 39 2 n (CE 2 (List.replicate n (Is (.agg #[.bool false, .slice none 0 0]))))),
      .ref 2] [.inl 3] [.inr 0, .inr 1, .inr 2] follows S1 rfl (by kernel_rfl) ?_ ?_
  · refine ⟨⟨⟨⟨trivial, ?_⟩, ?_⟩, ?_⟩, ?_⟩
    · exact owe_move rfl (wants_all rfl) (Or.inl rfl) (opnd_slot 1 0 rfl (by kernel_rfl)) rfl
    · exact owe_len rfl (wants_all rfl) rfl (opnd_op 0 8 (by kernel_rfl) rfl) ar_len Try.underlying36 rfl
    · exact owe_makeE rfl (wants_all rfl) rfl Try.underlying36 infoInt celv_z0 (by decide) (opnd_op 1 9 (by kernel_rfl) rfl) ⟨by omega, by unfold maxLen; omega⟩ rfl
    · exact owe_ref 2 rfl (wants_all rfl) (Or.inr rfl) (by kernel_rfl) rfl rfl
  intro B2 a2 W2 S2
  replace S2 : Sta w 26 [(5, (.row 39 2 n (CE 2 (List.replicate n (Is (.agg #[.bool false, .slice none 0 0]))))))] [(4, (Is (.slice none 0 0))), (0, (Ar 2 n φs)), (1, (Fn1 φs ψs))] B2 a2 W2 := S2
  refine wp_seq ?_
  refine wp_stmt_seq [.val (Ar 2 n φs),
      .val (Is (.int .i64 (n : Nat))),
      .val (Is (.int .i64 0))] [.inr 0] [.inl 0, .inl 1, .inl 2, .inr 0, .inr 1, .inr 2] follows S2 rfl (by kernel_rfl) ?_ ?_
  · refine ⟨⟨⟨trivial, ?_⟩, ?_⟩, ?_⟩
    · exact owe_move rfl (wants_all rfl) (Or.inl rfl) (opnd_slot 1 0 rfl (by kernel_rfl)) rfl
    · exact owe_len rfl (wants_all rfl) rfl (opnd_op 0 11 (by kernel_rfl) rfl) ar_len Try.underlying36 rfl
    · exact owe_move rfl (wants_all rfl) (Or.inl rfl) (opnd_const _) rfl
  intro B3 a3 W3 S3
  replace S3 : Sta w 26 [(5, (.row 39 2 n (CE 2 (List.replicate n (Is (.agg #[.bool false, .slice none 0 0]))))))] [(11, (Ar 2 n φs)), (12, (Is (.int .i64 (n : Nat)))), (13, (Is (.int .i64 0))), (4, (Is (.slice none 0 0))), (0, (Ar 2 n φs)), (1, (Fn1 φs ψs))] B3 a3 W3 := S3
  refine wp_block ?_
  refine wp_loop_ghost (fun (k : Nat) a W => (k ≤ n) ∧ ∃ Bq, Sta w 26 [(5, (.row 39 2 n (CE 2 ((ψs.map (· w.heap.size)).take k ++ List.replicate (n - k) (Is (.agg #[.bool false, .slice none 0 0]))))))] [(11, (Ar 2 n φs)), (12, (Is (.int .i64 (n : Nat)))), (13, (Is (.int .i64 k))), (1, (Fn1 φs ψs))] Bq a W) (fun (k : Nat) => n - k) ?_ 0 ⟨Nat.zero_le _, B3, S3.sub [0] [0, 1, 2, 5]⟩
  rintro k a4 W4 ⟨hcond, B4, S4⟩
  by_cases hlt : k < n
  · obtain ⟨φ, hφ⟩ : ∃ φ, φs[k]? = some φ := ⟨φs[k]'(by omega), List.getElem?_eq_getElem _⟩
    obtain ⟨ψ, hψk⟩ : ∃ ψ, ψs[k]? = some ψ := ⟨ψs[k]'(by omega), List.getElem?_eq_getElem _⟩
    have hset := set_next (z := Is (.agg #[.bool false, .slice none 0 0])) (xs := (ψs.map (· w.heap.size))) (n := n) (by simp [hl']) (map_get' (· w.heap.size) hψk)
    refine wp_stmt_seq [.val (Is (.bool true))] [.inr 0] [.inl 0, .inr 0, .inr 1, .inr 2, .inr 3] follows S4 rfl (by kernel_rfl) ?_ ?_
    · refine ⟨trivial, ?_⟩
      · exact owe_bin rfl (wants_all rfl) rfl (opnd_slot 2 13 rfl (by kernel_rfl)) (opnd_slot 1 12 rfl (by kernel_rfl)) rfl (fun ρ w h1 h2 => by exact run_lss_int_t ρ _ _ _ w _ _ (by omega) h1 h2)
    intro B5 a5 W5 S5
    replace S5 : Sta w 26 [(5, (.row 39 2 n (CE 2 ((ψs.map (· w.heap.size)).take k ++ List.replicate (n - k) (Is (.agg #[.bool false, .slice none 0 0]))))))] [(14, (Is (.bool true))), (11, (Ar 2 n φs)), (12, (Is (.int .i64 (n : Nat)))), (13, (Is (.int .i64 k))), (1, (Fn1 φs ψs))] B5 a5 W5 := S5
    refine wp_seq ?_
    refine wp_cond_true (S5.bool 0 14 rfl) ?_
    refine wp_skip ?_
    refine thenN ?_
    refine wp_seq ?_
    refine wp_block ?_
    refine wp_stmt_seq [.val (Is (.int .i64 k)),
      .val (AtE 2 φ),
      .val φ,
      .new (.box 39 (Is (.agg #[.bool false, .slice none 0 0]))),
      .val (Is (.int .i64 k)),
      .put (.inr 3) (.box 39 φ)] [.inr 0, .inl 3] [.inl 4, .inr 0, .inr 1, .inr 2, .inr 3, .inr 4] follows S5 rfl (by kernel_rfl) ?_ ?_
    · refine ⟨⟨⟨⟨⟨⟨trivial, ?_⟩, ?_⟩, ?_⟩, ?_⟩, ?_⟩, ?_⟩
      · exact owe_move rfl (wants_all rfl) (Or.inl rfl) (opnd_slot 3 13 rfl (by kernel_rfl)) rfl
      · exact owe_aindex rfl (wants_all rfl) rfl idx_ints (opnd_slot 1 11 rfl (by kernel_rfl)) (opnd_slot 3 13 rfl (by kernel_rfl)) hφ rfl
      · exact owe_aload rfl (wants_all rfl) rfl ldr_int (by decide) (cel_shp (by decide) (hS k φ hφ)) (opnd_op 1 16 (by kernel_rfl) rfl) rfl
      · exact owe_new rfl (wants_all rfl) rfl rfl (fun ρ w => alloc_int ρ _ w)
      · exact owe_move rfl (wants_all rfl) (Or.inr rfl) (opnd_op 0 15 (by kernel_rfl) rfl) rfl
      · exact owe_put 3 rfl (wants_all rfl) rfl (by kernel_rfl) rfl (opnd_op 2 17 (by kernel_rfl) rfl) (stores_of strct_int shp_z0 (hS k φ hφ)) rfl
    intro B6 a6 W6 S6
    replace S6 : Sta w 26 [(5, (.row 39 2 n (CE 2 ((ψs.map (· w.heap.size)).take k ++ List.replicate (n - k) (Is (.agg #[.bool false, .slice none 0 0])))))), (7, (.box 39 φ))] [(6, (Is (.int .i64 k))), (14, (Is (.bool true))), (11, (Ar 2 n φs)), (12, (Is (.int .i64 (n : Nat)))), (13, (Is (.int .i64 k))), (1, (Fn1 φs ψs))] B6 a6 W6 := S6
    refine wp_stmt [.val (Is (a6.eval (.tmp 5))),
      .val (Is (.int .i64 k)),
      .val (Fn1 φs ψs),
      .val φ,
      .val (ψ w.heap.size),
      .val (REt a6 5 (2 * k)),
      .put (.inl 5) (.row 39 2 n (CE 2 ((ψs.map (· w.heap.size)).take (k + 1) ++ List.replicate (n - (k + 1)) (Is (.agg #[.bool false, .slice none 0 0])))))] [.inr 0, .inr 1] [.inr 1, .inr 2, .inr 3, .inr 4, .inr 5] follows S6 rfl (by kernel_rfl) ?_ ?_
    · refine ⟨⟨⟨⟨⟨⟨⟨trivial, ?_⟩, ?_⟩, ?_⟩, ?_⟩, ?_⟩, ?_⟩, ?_⟩
      · exact owe_same rfl (wants_all rfl) (Or.inl rfl) (by kernel_rfl) rfl
      · exact owe_move rfl (wants_all rfl) (Or.inl rfl) (opnd_slot 0 6 rfl (by kernel_rfl)) rfl
      · exact owe_move rfl (wants_all rfl) (Or.inl rfl) (opnd_slot 5 1 rfl (by kernel_rfl)) rfl
      · exact owe_load rfl (wants_all rfl) rfl (k := 1) rfl (by kernel_rfl) (loads_of strct_int (hS k φ hφ)) rfl
      · exact owe_callv1 k rfl (wants_all rfl) rfl (opnd_op 2 20 (by kernel_rfl) rfl) hφ hψk (opnd_op 3 21 (by kernel_rfl) rfl) (hψ k ψ hψk).1 rfl
      · exact owe_rindexE rfl (wants_all rfl) rfl idx_ints (opnd_op 0 18 (by kernel_rfl) rfl) (k := 0) rfl (by kernel_rfl) (opnd_op 1 19 (by kernel_rfl) rfl) hlt rfl
      · exact owe_rstoreE rfl (wants_all rfl) rfl sto_int (by decide) (opnd_op 5 23 (by kernel_rfl) rfl) (k := 0) rfl (by kernel_rfl) (opnd_op 4 22 (by kernel_rfl) rfl) (cel_shp (by decide) ((hψ k ψ hψk).2 _)) hlt (by rw [hset]; rfl)
    intro B7 a7 W7 S7
    replace S7 : Sta w 26 [(5, (.row 39 2 n (CE 2 ((ψs.map (· w.heap.size)).take (k + 1) ++ List.replicate (n - (k + 1)) (Is (.agg #[.bool false, .slice none 0 0])))))), (7, (.box 39 φ))] [(14, (Is (.bool true))), (11, (Ar 2 n φs)), (12, (Is (.int .i64 (n : Nat)))), (13, (Is (.int .i64 k))), (1, (Fn1 φs ψs))] B7 a7 W7 := S7
    refine inBlkN ?_
    refine thenN ?_
    refine wp_stmt [.val (Is (.int .i64 (k + 1 : Nat))),
      .val (Is (.int .i64 (k + 1 : Nat)))] [.inr 0, .inr 1] [.inl 1, .inr 0, .inr 1, .inr 2, .inr 4] follows S7 rfl (by kernel_rfl) ?_ ?_
    · refine ⟨⟨trivial, ?_⟩, ?_⟩
      · exact owe_bin rfl (wants_all rfl) rfl (opnd_slot 3 13 rfl (by kernel_rfl)) (opnd_const _) rfl (fun ρ w h1 h2 => by exact run_add_int ρ _ _ _ w _ _ _ ⟨by omega, by omega, by omega⟩ h1 h2)
      · exact owe_move rfl (wants_all rfl) (Or.inl rfl) (opnd_op 0 24 (by kernel_rfl) rfl) rfl
    intro B8 a8 W8 S8
    replace S8 : Sta w 26 [(5, (.row 39 2 n (CE 2 ((ψs.map (· w.heap.size)).take (k + 1) ++ List.replicate (n - (k + 1)) (Is (.agg #[.bool false, .slice none 0 0])))))), (7, (.box 39 φ))] [(13, (Is (.int .i64 (k + 1 : Nat)))), (14, (Is (.bool true))), (11, (Ar 2 n φs)), (12, (Is (.int .i64 (n : Nat)))), (1, (Fn1 φs ψs))] B8 a8 W8 := S8
    refine thenN ?_
    exact ⟨k + 1, ⟨by omega, B8, S8.sub [0] [2, 3, 0, 4]⟩, by omega⟩
  · have hend := fill_end (z := Is (.agg #[.bool false, .slice none 0 0])) (xs := (ψs.map (· w.heap.size))) (n := n) (k := k) (by simp [hl']) (by omega)
    refine wp_stmt_seq [.val (Is (.bool false))] [.inr 0] [.inl 0, .inr 0, .inr 1, .inr 2, .inr 3] follows S4 rfl (by kernel_rfl) ?_ ?_
    · refine ⟨trivial, ?_⟩
      · exact owe_bin rfl (wants_all rfl) rfl (opnd_slot 2 13 rfl (by kernel_rfl)) (opnd_slot 1 12 rfl (by kernel_rfl)) rfl (fun ρ w h1 h2 => by exact run_lss_int_f ρ _ _ _ w _ _ (by omega) h1 h2)
    intro B5 a5 W5 S5
    replace S5 : Sta w 26 [(5, (.row 39 2 n (CE 2 ((ψs.map (· w.heap.size)).take k ++ List.replicate (n - k) (Is (.agg #[.bool false, .slice none 0 0]))))))] [(14, (Is (.bool false))), (11, (Ar 2 n φs)), (12, (Is (.int .i64 (n : Nat)))), (13, (Is (.int .i64 k))), (1, (Fn1 φs ψs))] B5 a5 W5 := S5
    refine wp_seq ?_
    refine wp_cond_false (S5.bool 0 14 rfl) ?_
    refine wp_exit ?_
    refine thenX ?_
    refine thenX ?_
    refine inBlkE ?_
    refine thenN ?_
    obtain ⟨B6, S6⟩ : ∃ Bq, Sta w 26 [] [(5, ((LF 2 n ψs) w.heap.size)), (14, (Is (.bool false))), (11, (Ar 2 n φs)), (12, (Is (.int .i64 (n : Nat)))), (13, (Is (.int .i64 k))), (1, (Fn1 φs ψs))] Bq a5 W5 := ⟨_, S5.freeze 0 rfl (by simp) (fun v w' xs ho hc => row_lf (by decide) v w' xs ho (by rw [hend] at hc; exact hc))⟩
    obtain ⟨a6, W6, e1, e2⟩ : ∃ a W, a5 = a ∧ W5 = W := ⟨_, _, rfl, rfl⟩
    rw [e1, e2] at S6 ⊢
    clear e1 e2
    refine wp_stmt_seq [.val ((LF 2 n ψs) w.heap.size),
      .val ((LF 2 n ψs) w.heap.size)] [] [.inl 1, .inr 0, .inr 1, .inr 2, .inr 3, .inr 4, .inr 5] follows S6 rfl (by kernel_rfl) ?_ ?_
    · refine ⟨⟨trivial, ?_⟩, ?_⟩
      · exact owe_move rfl (wants_all rfl) (Or.inl rfl) (opnd_slot 0 5 rfl (by kernel_rfl)) rfl
      · exact owe_move rfl (wants_all rfl) (Or.inr rfl) (opnd_op 0 25 (by kernel_rfl) rfl) rfl
    intro B7 a7 W7 S7
    replace S7 : Sta w 26 [] [(4, ((LF 2 n ψs) w.heap.size)), (5, ((LF 2 n ψs) w.heap.size)), (14, (Is (.bool false))), (11, (Ar 2 n φs)), (12, (Is (.int .i64 (n : Nat)))), (13, (Is (.int .i64 k))), (1, (Fn1 φs ψs))] B7 a7 W7 := S7
    refine wp_ret ?_
    exact end_one S7 rfl (res_tmp S7 0 4 rfl)

set_option maxHeartbeats 400000 in
theorem each_0 (w : World) (u f : Value) (φs : List Pr) (h : Hs w (Ar 2 0 φs) u) :
    Calls Try.prog 56 #[u, f] w (Gives (ZD 0) w) := by
  refine calls_sta (sl := [(0, (Ar 2 0 φs)), (1, (Is (f)))]) Try.func56 rfl Try.ntmps56 (by simp) (args_cons rfl (h) (args_cons rfl (fun _ _ => rfl) args_nil)) ?_
  intro a0 S0
  refine wp_stmt_seq [.val (Is (.slice none 0 0))] [] [.inl 0, .inr 0, .inr 1] follows S0 rfl (by kernel_rfl) ?_ ?_
  · refine ⟨trivial, ?_⟩
    · exact owe_move rfl (wants_all rfl) (Or.inr rfl) (opnd_const _) rfl
  intro B1 a1 W1 S1
  replace S1 : Sta w 26 [] [(4, (Is (.slice none 0 0))), (0, (Ar 2 0 φs)), (1, (Is (f)))] B1 a1 W1 := S1
  refine wp_stmt_seq [.val (Ar 2 0 φs),
      .val (Is (.int .i64 (0 : Nat))),
      .val ((ZD 0) w.heap.size),
      .val ((ZD 0) w.heap.size)] [] [.inl 3, .inr 0, .inr 1, .inr 2] follows S1 rfl (by kernel_rfl) ?_ ?_
  · refine ⟨⟨⟨⟨trivial, ?_⟩, ?_⟩, ?_⟩, ?_⟩
    · exact owe_move rfl (wants_all rfl) (Or.inl rfl) (opnd_slot 1 0 rfl (by kernel_rfl)) rfl
    · exact owe_len rfl (wants_all rfl) rfl (opnd_op 0 8 (by kernel_rfl) rfl) ar_len Try.underlying36 rfl
    · exact owe_makeV (n := 0) rfl (wants_all rfl) rfl (opnd_op 1 9 (by kernel_rfl) rfl) (by omega) rfl
    · exact owe_move rfl (wants_all rfl) (Or.inr rfl) (opnd_op 2 10 (by kernel_rfl) rfl) rfl
  intro B2 a2 W2 S2
  replace S2 : Sta w 26 [] [(5, ((ZD 0) w.heap.size)), (4, (Is (.slice none 0 0))), (0, (Ar 2 0 φs)), (1, (Is (f)))] B2 a2 W2 := S2
  refine wp_seq ?_
  refine wp_stmt_seq [.val (Ar 2 0 φs),
      .val (Is (.int .i64 (0 : Nat))),
      .val (Is (.int .i64 0))] [] [.inl 0, .inl 1, .inl 2, .inr 0, .inr 1, .inr 2, .inr 3] follows S2 rfl (by kernel_rfl) ?_ ?_
  · refine ⟨⟨⟨trivial, ?_⟩, ?_⟩, ?_⟩
    · exact owe_move rfl (wants_all rfl) (Or.inl rfl) (opnd_slot 2 0 rfl (by kernel_rfl)) rfl
    · exact owe_len rfl (wants_all rfl) rfl (opnd_op 0 11 (by kernel_rfl) rfl) ar_len Try.underlying36 rfl
    · exact owe_move rfl (wants_all rfl) (Or.inl rfl) (opnd_const _) rfl
  intro B3 a3 W3 S3
  replace S3 : Sta w 26 [] [(11, (Ar 2 0 φs)), (12, (Is (.int .i64 (0 : Nat)))), (13, (Is (.int .i64 0))), (5, ((ZD 0) w.heap.size)), (4, (Is (.slice none 0 0))), (0, (Ar 2 0 φs)), (1, (Is (f)))] B3 a3 W3 := S3
  refine wp_block ?_
  refine wp_loop_ghost (fun (k : Nat) a W => (k = 0) ∧ ∃ Bq, Sta w 26 [] [(11, (Ar 2 0 φs)), (12, (Is (.int .i64 (0 : Nat)))), (13, (Is (.int .i64 k))), (5, ((ZD 0) w.heap.size))] Bq a W) (fun (k : Nat) => 0) ?_ 0 ⟨rfl, B3, S3.sub [] [0, 1, 2, 3]⟩
  rintro k a4 W4 ⟨hcond, B4, S4⟩
  · skip
    refine wp_stmt_seq [.val (Is (.bool false))] [] [.inl 0, .inr 0, .inr 1, .inr 2, .inr 3] follows S4 rfl (by kernel_rfl) ?_ ?_
    · refine ⟨trivial, ?_⟩
      · exact owe_bin rfl (wants_all rfl) rfl (opnd_slot 2 13 rfl (by kernel_rfl)) (opnd_slot 1 12 rfl (by kernel_rfl)) rfl (fun ρ w h1 h2 => by exact run_lss_int_f ρ _ _ _ w _ _ (by omega) h1 h2)
    intro B5 a5 W5 S5
    replace S5 : Sta w 26 [] [(14, (Is (.bool false))), (11, (Ar 2 0 φs)), (12, (Is (.int .i64 (0 : Nat)))), (13, (Is (.int .i64 k))), (5, ((ZD 0) w.heap.size))] B5 a5 W5 := S5
    refine wp_seq ?_
    refine wp_cond_false (S5.bool 0 14 rfl) ?_
    refine wp_exit ?_
    refine thenX ?_
    refine thenX ?_
    refine inBlkE ?_
    refine thenN ?_
    refine wp_stmt_seq [.val ((ZD 0) w.heap.size),
      .val ((ZD 0) w.heap.size)] [] [.inl 1, .inr 0, .inr 1, .inr 2, .inr 3, .inr 4] follows S5 rfl (by kernel_rfl) ?_ ?_
    · refine ⟨⟨trivial, ?_⟩, ?_⟩
      · exact owe_move rfl (wants_all rfl) (Or.inl rfl) (opnd_slot 4 5 rfl (by kernel_rfl)) rfl
      · exact owe_move rfl (wants_all rfl) (Or.inr rfl) (opnd_op 0 25 (by kernel_rfl) rfl) rfl
    intro B6 a6 W6 S6
    replace S6 : Sta w 26 [] [(4, ((ZD 0) w.heap.size)), (14, (Is (.bool false))), (11, (Ar 2 0 φs)), (12, (Is (.int .i64 (0 : Nat)))), (13, (Is (.int .i64 k))), (5, ((ZD 0) w.heap.size))] B6 a6 W6 := S6
    refine wp_ret ?_
    exact end_one S6 rfl (res_tmp S6 0 4 rfl)


/-- A new list that is not nil. -/
def NV (N : Nat) (zs : List Int) : Nat → Pr := fun lo v w => VN N zs lo v w ∧ ∃ g o C, v = .slice (some ⟨g, o, none⟩) N C
theorem fresh_nv {N : Nat} {zs : List Int} : Fresh (NV N zs) := ⟨fun lo lo' v w hl h => ⟨fresh_vn.mono _ _ _ _ hl h.1, h.2⟩, fun lo v w w' B hB h ev => ⟨fresh_vn.ev _ _ _ _ _ hB h.1 ev, h.2⟩⟩
theorem vn_nv {N lo : Nat} {zs : List Int} (h0 : 0 < N) {v : Value} {w : World} (h : VN N zs lo v w) : NV N zs lo v w := by
  refine ⟨h, ?_⟩
  obtain ⟨⟨p, c, e, l, ⟨h1, h2, h3⟩, ha⟩, hf⟩ := h
  have hl : zs.length = N := by simpa using l
  obtain ⟨b, o, u, hp, _⟩ := ha 0 _ (map_get' (· lo) (map_get' ZN (List.getElem?_eq_getElem (by omega : 0 < zs.length))))
  exact ⟨b, o, c, by rw [e, hp]⟩
theorem zd_nv {lo : Nat} {v : Value} {w : World} (h : ZD 0 lo v w) : NV 0 [] lo v w := by
  obtain ⟨g, e, h1, h2⟩ := h
  exact ⟨⟨⟨_, 0, e, rfl, ⟨Nat.le_refl _, by unfold maxLen; omega, (fun e => by cases e)⟩, fun i φ h => by simp at h⟩, fun b o n c e' => by rw [e] at e'; cases e'; exact h1⟩, g, 0, 0, e⟩
theorem each_form {w : World} {n k N lo : Nat} {A : List (List Int)} {xss : List (List Value)} {u c : Value} (hk : k ≤ 1073741824) (hN : xss.flatten.length = N) (hN' : A.flatten.length = N) (hb : N ≤ 1099511627776) (hu : Hs w (LF 2 N (xss.flatten.map IS) lo) u) (hc : Hs w (Mz n k A xss) c) : Calls Try.prog 56 #[u, .func (.func 58) #[] #[]] w (Gives (NV N A.flatten) w) := by
  have hv : Hs w (Ar 2 N (A.flatten.map (fun z => Zv z k))) u := fun w' ev => by
    obtain ⟨⟨p, c', e, l, bb, ha⟩, _⟩ := hu w' ev
    refine ⟨p, c', e, by rw [List.length_map]; exact hN', bb, fun i φ hφ => ?_⟩
    obtain ⟨z, hz, rfl⟩ := map_get hφ
    have hi : i < xss.flatten.length := by rw [hN, ← hN']; exact (List.getElem?_eq_some_iff.1 hz).1
    obtain ⟨b, o, y, e1, e2, e3, e4⟩ := ha i _ (map_get' (· lo) (map_get' IS (List.getElem?_eq_getElem hi)))
    obtain rfl : y = _ := e4
    exact ⟨b, o, _, e1, e2, e3, (hc w' ev).2 i _ z (List.getElem?_eq_getElem hi) hz⟩
  rcases Nat.eq_zero_or_pos N with h0 | h0
  · have hA : A.flatten = [] := List.length_eq_zero_iff.1 (by omega)
    rw [hA] at hv ⊢
    subst h0
    refine (each_0 w u _ _ hv).mono ?_
    rintro e w' ⟨v, rfl, hb', hz⟩
    exact ⟨v, rfl, hb', zd_nv hz⟩
  · refine Calls.mono (each4_w w u _ N _ (A.flatten.map ZN) (by rw [List.length_map]; exact hN') (by rw [List.length_map]; exact hN') hv (fun w' ev => fn1_map (G := ZN) (fun args w => by go_simp) (fun a => h_zform (by omega)) _ _ rfl) (fun i φ h => by obtain ⟨a, _, rfl⟩ := map_get h; exact shp_zv) (fun i ψ h => by obtain ⟨a, _, rfl⟩ := map_get h; exact ⟨fresh_zn _, fun lo => shp_zn⟩) hb) ?_
    rintro e w' ⟨v, rfl, hb', hz⟩
    exact ⟨v, rfl, hb', vn_nv h0 hz⟩
section
variable {ops : Array Oper} {l : List Kd} {bx : Bxs} {sl : List (Tmp × Pr)} {i : Nat} {o : Oper} {Q : Exit → Act → World → Prop} {a0 : Act} {n0 : Nat} {w0 : World}
theorem owe_call2X {ψ : Nat → Pr} {f g : FuncId} {x z : Operand} {ts : Array TypeId} {φ χ : Pr} (ho : ops[i]? = some o) (hw : Wants ops l bx sl i o) (hop : o.op = .call { callee := .value (.func f), args := #[x, .func g], argTypes := ts }) (hx : Opnd ops l bx sl i x φ) (hz : Opnd ops l bx sl i z χ) (hF : Fresh ψ) (hk : kdAt l i = .val (ψ w0.heap.size))
    (hcf : ∀ args w, (callFunc f args).run Try.prog w = .ok (.enter f args) w) (C : ∀ w u c, Hs w φ u → Hs w χ c → Calls Try.prog f #[u, .func (.func g) #[] #[]] w (Gives ψ w)) : Owed Try.prog ops Q l bx sl a0 n0 w0 i :=
  owe_call ho hw hop hF hk hcf fun vs B a w c => by
    rw [show (#[x, .func g] : Array Operand).map a.eval = #[a.eval x, .func (.func g) #[] #[]] from by simp [Act.eval]]
    exact C w _ _ (hx a0 n0 w0 vs B a w c).hs (hz a0 n0 w0 vs B a w c).hs
theorem owe_cutN {x y : Operand} {ts : Array TypeId} {n N : Nat} {A : List (List Int)} {xss : List (List Value)} (ho : ops[i]? = some o) (hw : Wants ops l bx sl i o) (hop : o.op = .call { callee := .value (.func 55), args := #[x, y], argTypes := ts }) (hx : Opnd ops l bx sl i x (NV N A.flatten w0.heap.size)) (hy : Opnd ops l bx sl i y (LF 1 n (xss.map (fun xs => IS (.int .i64 (xs.length : Nat)))) w0.heap.size)) (hk : kdAt l i = .val (MN n A w0.heap.size))
    (hcf : ∀ args w, (callFunc 55 args).run Try.prog w = .ok (.enter 55 args) w) (hN : A.flatten.length = N) (hA : A.length = n) (hss : xss.map List.length = A.map List.length) (hn : n ≤ 1048576) (hL : Ml A 1048576) : Owed Try.prog ops Q l bx sl a0 n0 w0 i := fun vs B a w c o' ho' => by
  obtain rfl : o = o' := Option.some.inj (ho.symm.trans ho')
  have hX := hx a0 n0 w0 vs B a w c
  have hY := hy a0 n0 w0 vs B a w c
  obtain ⟨hV, g, oo, C, e⟩ := id hX.now
  obtain ⟨⟨p, c', e', _, ⟨h1, h2, h3⟩, _⟩, _⟩ := id hV
  rw [e] at e'
  cases e'
  have hsum : (A.map List.length).sum = N := by rw [← List.length_flatten, hN]
  have hY' : Hs w (Ar 1 n ((A.map List.length).map (fun s : Nat => Is (.int .i64 (s : Nat))))) (a.eval y) := by
    refine (hY.imp (fun w h => ?_)).hs
    have := lf_ar _ _ h
    rw [List.map_map] at this
    rw [← hss, List.map_map]
    exact this
  have hr : (execOp a.eval o).run Try.prog w = .ok (.enter 55 #[.slice (some ⟨g, oo, none⟩) N C, a.eval y]) w := by
    unfold execOp
    rw [hop]
    have hf : a.eval (.func 55) = .func (.func 55) #[] #[] := rfl
    generalize a.eval = ρ at hf e
    go_simp
  simp only [wpOp, ho]
  rw [if_pos (hw a0 n0 w0 vs B a w c)]
  refine Or.inl ?_
  unfold Oper.wp
  rw [hr, Oper.upon_enter]
  refine (cut_c w g oo N C n (A.map List.length) (a.eval y) (by simp [hA]) hY' (by rw [hsum]; exact Nat.le_refl _) h1 h2 hn).mono ?_
  rintro ee w' ⟨v, rfl, hb, hR⟩
  refine ⟨v, rfl, ?_⟩
  rw [hk]
  refine ⟨hb, fun w'' e'' => ?_⟩
  have hX2 := (hX.go (Ev.of_below hb) (fun _ _ h => h) w'' e'').1
  rw [e] at hX2
  subst hN
  exact rows_mn hA (Nat.le_trans h1 h2) (fun i r hr => Nat.le_trans (hL i r hr) (by unfold maxLen; omega)) c.lo ((fresh_lf (by decide) (fun i ψ h => by obtain ⟨j, _, rfl⟩ := map_get h; exact fresh_is _)).ev _ _ _ _ B (fun k hk => (c.bnd k hk).2) hR e'') hX2
end

set_option maxHeartbeats 400000 in
theorem mform_z (w : World) (u : Value) (n k : Nat) (A : List (List Int)) (xss : List (List Value)) (h : Hs w (Mz n k A xss) u) (hlen : xss.length = n) (hAl : A.length = n) (hss : xss.map List.length = A.map List.length) (hfl : xss.flatten.length = A.flatten.length) (hcel : ∀ xs ∈ xss, ∀ x ∈ xs, Celv 2 x) (hn : n ≤ 1048576) (hk : k ≤ 1073741824) (hL : Ml A 1048576) (hLx : Ml xss 1048576) :
    Calls Try.prog 16 #[u] w (Gives (MN n A) w) := by
  have hle := fl_le hL n
  rw [List.take_of_length_le (by omega)] at hle
  have hle1 : n * 1048576 ≤ 1048576 * 1048576 := Nat.mul_le_mul_right _ hn
  refine calls_sta (sl := [(0, (Mz n k A xss))]) Try.func16 rfl Try.ntmps16 (by simp) (args_cons rfl (h) args_nil) ?_
  intro a0 S0
  refine wp_stmt_seq [.val (Is (.slice none 0 0))] [] [.inl 0, .inr 0] follows S0 rfl (by kernel_rfl) ?_ ?_
  · refine ⟨trivial, ?_⟩
    · exact owe_move rfl (wants_all rfl) (Or.inr rfl) (opnd_const _) rfl
  intro B1 a1 W1 S1
  replace S1 : Sta w 11 [] [(2, (Is (.slice none 0 0))), (0, (Mz n k A xss))] B1 a1 W1 := S1
  refine wp_stmt_seq [.val (Mz n k A xss),
      .val ((LF 1 n (xss.map (fun xs => IS (.int .i64 (xs.length : Nat))))) w.heap.size),
      .val ((LF 1 n (xss.map (fun xs => IS (.int .i64 (xs.length : Nat))))) w.heap.size)] [] [.inl 2, .inr 0, .inr 1] follows S1 rfl (by kernel_rfl) ?_ ?_
  · refine ⟨⟨⟨trivial, ?_⟩, ?_⟩, ?_⟩
    · exact owe_move rfl (wants_all rfl) (Or.inl rfl) (opnd_slot 1 0 rfl (by kernel_rfl)) rfl
    · exact owe_callh2 rfl (wants_all rfl) rfl ((opnd_op 0 4 (by kernel_rfl) rfl).imp mz_mq) ((opnd_func _).imp (is_fn1 (fun args w => by go_simp) (fun i φ ψ h1 h2 w u hu => by obtain ⟨x, hx, rfl⟩ := map_get h1; obtain ⟨y, hy, rfl⟩ := map_get h2; rw [hx] at hy; cases hy; exact form1_w w u _ _ hu))) (fresh_lf (by decide) (fun i ψ h => by obtain ⟨x, _, rfl⟩ := map_get h; exact fresh_is _)) rfl (fun args w => by go_simp) (fun w u f h hf => each2_w w u f n (xss.map (fun xs => Ar 2 xs.length (xs.map Is))) _ (by simp [hlen]) (by simp [hlen]) h hf (fun i φ h => by obtain ⟨x, _, rfl⟩ := map_get h; exact cel_ar) (fun i ψ h => by obtain ⟨x, _, rfl⟩ := map_get h; exact ⟨fresh_is _, fun lo => cel_is rfl⟩) hn)
    · exact owe_move rfl (wants_all rfl) (Or.inr rfl) (opnd_op 1 5 (by kernel_rfl) rfl) rfl
  intro B2 a2 W2 S2
  replace S2 : Sta w 11 [] [(3, ((LF 1 n (xss.map (fun xs => IS (.int .i64 (xs.length : Nat))))) w.heap.size)), (2, (Is (.slice none 0 0))), (0, (Mz n k A xss))] B2 a2 W2 := S2
  refine wp_stmt_seq [.val (Mz n k A xss),
      .val ((LF 2 (xss.flatten.length) (xss.flatten.map IS)) w.heap.size),
      .val ((NV A.flatten.length A.flatten) w.heap.size),
      .val ((LF 1 n (xss.map (fun xs => IS (.int .i64 (xs.length : Nat))))) w.heap.size),
      .val ((MN n A) w.heap.size),
      .val ((MN n A) w.heap.size)] [] [.inl 5, .inr 2] follows S2 rfl (by kernel_rfl) ?_ ?_
  · refine ⟨⟨⟨⟨⟨⟨trivial, ?_⟩, ?_⟩, ?_⟩, ?_⟩, ?_⟩, ?_⟩
    · exact owe_move rfl (wants_all rfl) (Or.inl rfl) (opnd_slot 2 0 rfl (by kernel_rfl)) rfl
    · exact owe_callh1 rfl (wants_all rfl) rfl ((opnd_op 0 6 (by kernel_rfl) rfl).imp mz_mq) (fresh_lf (by decide) (fun i ψ h => by obtain ⟨x, _, rfl⟩ := map_get h; exact fresh_is _)) rfl (fun args w => by go_simp) (fun w u h => concat_w w u n xss h hlen hn hLx hcel)
    · exact owe_call2X rfl (wants_all rfl) rfl (opnd_op 1 7 (by kernel_rfl) rfl) (opnd_slot 2 0 rfl (by kernel_rfl)) fresh_nv rfl (fun args w => by go_simp) (fun w u c hu hc => each_form hk hfl rfl (by omega) (by rw [hfl] at hu; exact hu) hc)
    · exact owe_move rfl (wants_all rfl) (Or.inl rfl) (opnd_slot 0 3 rfl (by kernel_rfl)) rfl
    · exact owe_cutN (xss := xss) rfl (wants_all rfl) rfl (opnd_op 2 8 (by kernel_rfl) rfl) (opnd_op 3 9 (by kernel_rfl) rfl) rfl (fun args w => by go_simp) rfl hAl hss hn hL
    · exact owe_move rfl (wants_all rfl) (Or.inr rfl) (opnd_op 4 10 (by kernel_rfl) rfl) rfl
  intro B3 a3 W3 S3
  replace S3 : Sta w 11 [] [(2, ((MN n A) w.heap.size)), (0, (Mz n k A xss))] B3 a3 W3 := S3
  refine wp_ret ?_
  exact end_one S3 rfl (res_tmp S3 0 2 rfl)

theorem mform_w (w : World) (u : Value) (n k : Nat) (A : List (List Int)) (h : Hs w (Mv n A k) u) (hn : n ≤ 1048576) (hs : k ≤ 1073741824) (hL : Ml A 1048576) : Calls Try.prog 16 #[u] w (Gives (MN n A) w) := by
  obtain ⟨xss, h1, h2, h3, h4, h5⟩ := mv_mz h
  exact mform_z w u n k A xss h5 h1 (mv_len h.now) h2 h3 h4 hn hs hL (fun i xs hx => by
    have hi := (List.getElem?_eq_some_iff.1 hx).1
    have e := congrArg (fun l : List Nat => l[i]?) h2
    simp only [List.getElem?_map, hx, Option.map_some] at e
    cases hr : A[i]? with
    | none => rw [hr] at e; simp at e
    | some r => rw [hr] at e; simp at e; rw [e]; exact hL i r hr)
end Go.Proofs.Ytiehipnaklkhjaa
