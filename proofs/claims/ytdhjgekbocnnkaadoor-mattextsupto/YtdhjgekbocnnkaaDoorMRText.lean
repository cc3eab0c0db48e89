/-
  The document's TextVector and Text.
-/
import Derived.Test.YtdhjgekbocnnkaaDoorBRow
import Derived.Test.YtdhjgekbocnnkaaDoorSetS
import Derived.Test.YtdhjgekbocnnkaaDoorMArgs
import Derived.Test.YtdhjgekbocnnkaaDoorListsSum
namespace Go.Proofs.YtdhjgekbocnnkaaDoor
open Go Go.RowKit Nt
set_option linter.unusedSimpArgs false
set_option linter.unusedVariables false
set_option maxRecDepth 20000


/-- The texts of the first k, with the mark between. -/
def jk {α : Type} (f : α → List UInt8) (sep : List UInt8) (l : List α) (k : Nat) : List UInt8 := Lib.join ((l.take k).map f) sep
theorem jk_first {α : Type} {f : α → List UInt8} {sep : List UInt8} {l : List α} {k : Nat} {a : α} (h : l[k]? = some a) (h0 : ¬ 0 < k) : jk f sep l k ++ f a = jk f sep l (k + 1) := by
  obtain rfl : k = 0 := by omega
  unfold jk
  rw [List.take_add_one, h]
  simp [Lib.join, List.intercalate]
theorem jk_next {α : Type} {f : α → List UInt8} {sep : List UInt8} {l : List α} {k : Nat} {a : α} (h : l[k]? = some a) (h0 : 0 < k) : jk f sep l k ++ sep ++ f a = jk f sep l (k + 1) := by
  unfold jk
  cases l with
  | nil => simp at h
  | cons b r =>
    obtain ⟨j, rfl⟩ : ∃ j, k = j + 1 := ⟨k - 1, by omega⟩
    rw [List.take_succ_cons, List.take_succ_cons, List.map_cons, List.map_cons, Lib.join_cons, Lib.join_cons, List.map_take, List.map_take, Lib.joinTail_take_succ sep (r.map f) j (f a) (by rw [List.getElem?_map]; simp at h; rw [h]; rfl)]
    simp only [List.append_assoc]
theorem jk_end {α : Type} {f : α → List UInt8} {sep : List UInt8} {l : List α} {k : Nat} (h : l.length ≤ k) : jk f sep l k = Lib.join (l.map f) sep := by
  unfold jk
  rw [List.take_of_length_le h]
theorem jk_le {α : Type} (f : α → List UInt8) (sep : List UInt8) (l : List α) (k : Nat) : (jk f sep l k).length ≤ (Lib.join (l.map f) sep).length := by
  unfold jk
  cases l with
  | nil => simp
  | cons b r =>
    cases k with
    | zero => simp [Lib.join, List.intercalate]
    | succ k =>
      rw [List.take_succ_cons, List.map_cons, List.map_cons, Lib.join_cons, Lib.join_cons, List.length_append, List.length_append]
      have := Lib.joinTail_take_le sep (r.map f) k
      rw [← List.map_take] at *
      omega
theorem lit_32 {o : Oper} (ρ : Operand → Value) (w : World) (h : ∀ v, ρ (.const v) = v) : (execOp ρ { o with op := .buildSlice 50 1 #[(0, .const (.int .u8 32))] }).run Tryd.prog w = .ok (.value (.slice (some ⟨w.heap.size, 0, none⟩) ([32] : List UInt8).length ([32] : List UInt8).length)) (w.alloc (.cells (Lib.byteCells [32]).toArray 5)) := by
  have h0 := h (.int .u8 32)
  unfold execOp
  go_simp
  rfl
theorem lit_59_32 {o : Oper} (ρ : Operand → Value) (w : World) (h : ∀ v, ρ (.const v) = v) : (execOp ρ { o with op := .buildSlice 50 2 #[(0, .const (.int .u8 59)), (1, .const (.int .u8 32))] }).run Tryd.prog w = .ok (.value (.slice (some ⟨w.heap.size, 0, none⟩) ([59, 32] : List UInt8).length ([59, 32] : List UInt8).length)) (w.alloc (.cells (Lib.byteCells [59, 32]).toArray 5)) := by
  have h0 := h (.int .u8 59)
  have h1 := h (.int .u8 32)
  unfold execOp
  go_simp
  rfl

set_option maxHeartbeats 1000000 in
theorem rtextv_w (w : World) (u : Value) (n k : Nat) (As : List Int) (h : Hs w (Vv n As k) u) (hn : n ≤ 1048576) (hk : k ≤ 1048576) (hlen : (txV As).length ≤ 140737488355328) :
    Calls Tryd.prog 11 #[u] w (Gives (IS (str (txV As))) w) := by
  have hlA := vv_len h.now
  refine calls_sta (sl := [(0, (Vv n As k))]) Tryd.func11 rfl Tryd.ntmps11 (by simp) (args_cons rfl (h) args_nil) ?_
  intro a0 S0
  refine wp_stmt_seq [.val (Is (.string (ByteArray.mk #[])))] [] [.inl 0, .inr 0] follows S0 rfl (by kernel_rfl) ?_ ?_
  · refine ⟨trivial, ?_⟩
    · exact owe_move rfl (wants_all rfl) (Or.inr rfl) (opnd_const _) rfl
  intro B1 a1 W1 S1
  replace S1 : Sta w 25 [] [(2, (Is (.string (ByteArray.mk #[])))), (0, (Vv n As k))] B1 a1 W1 := S1
  refine wp_stmt_seq [.new (.row 5 1 0 (EqL (Lib.byteCells (jk txZ [32] As 0))))] [.inl 0] [.inr 0, .inr 1] follows S1 rfl (by kernel_rfl) ?_ ?_
  · refine ⟨trivial, ?_⟩
    · exact owe_nilrow rfl (wants_all rfl) rfl rfl (fun w => rfl)
  intro B2 a2 W2 S2
  replace S2 : Sta w 25 [(3, (.row 5 1 0 (EqL (Lib.byteCells (jk txZ [32] As 0)))))] [(2, (Is (.string (ByteArray.mk #[])))), (0, (Vv n As k))] B2 a2 W2 := S2
  refine wp_seq ?_
  refine wp_stmt_seq [.val (Is (.int .i64 0))] [.inr 0] [.inl 0, .inr 0, .inr 1] follows S2 rfl (by kernel_rfl) ?_ ?_
  · refine ⟨trivial, ?_⟩
    · exact owe_move rfl (wants_all rfl) (Or.inr rfl) (opnd_const _) rfl
  intro B3 a3 W3 S3
  replace S3 : Sta w 25 [(3, (.row 5 1 0 (EqL (Lib.byteCells (jk txZ [32] As 0)))))] [(4, (Is (.int .i64 0))), (2, (Is (.string (ByteArray.mk #[])))), (0, (Vv n As k))] B3 a3 W3 := S3
  refine wp_block ?_
  refine wp_loop_ghost (fun (k0 : Nat) a W => (k0 ≤ n) ∧ ∃ Bq, Sta w 25 [(3, (.row 5 1 ((jk txZ [32] As k0).length) (EqL (Lib.byteCells (jk txZ [32] As k0)))))] [(4, (Is (.int .i64 k0))), (0, (Vv n As k))] Bq a W) (fun (k0 : Nat) => n - k0) ?_ 0 ⟨Nat.zero_le _, B3, S3.sub [0] [0, 2]⟩
  rintro k0 a4 W4 ⟨hcond, B4, S4⟩
  by_cases hlt : k0 < n
  · obtain ⟨a, ha⟩ : ∃ a, As[k0]? = some a := ⟨As[k0]'(by omega), List.getElem?_eq_getElem _⟩
    have hj1 := jk_le txZ [32] As (k0 + 1)
    have hj2 := jk_le txZ [32] As k0
    have hlen' : (Lib.join (As.map txZ) [32]).length ≤ 140737488355328 := hlen
    refine wp_seq ?_
    refine wp_stmt_seq [.val (Is (.int .i64 k0)),
      .val (Vv n As k),
      .val (Is (.int .i64 (n : Nat))),
      .val (Is (.bool true))] [.inr 0] [.inl 3, .inr 0, .inr 1] follows S4 rfl (by kernel_rfl) ?_ ?_
    · refine ⟨⟨⟨⟨trivial, ?_⟩, ?_⟩, ?_⟩, ?_⟩
      · exact owe_move rfl (wants_all rfl) (Or.inl rfl) (opnd_slot 0 4 rfl (by kernel_rfl)) rfl
      · exact owe_move rfl (wants_all rfl) (Or.inl rfl) (opnd_slot 1 0 rfl (by kernel_rfl)) rfl
      · exact owe_len rfl (wants_all rfl) rfl (opnd_op 1 6 (by kernel_rfl) rfl) ar_len Tryd.underlying23 rfl
      · exact owe_bin rfl (wants_all rfl) rfl (opnd_op 0 5 (by kernel_rfl) rfl) (opnd_op 2 7 (by kernel_rfl) rfl) rfl (fun ρ w h1 h2 => by exact run_lss_int_t ρ _ _ _ w _ _ (by omega) h1 h2)
    intro B5 a5 W5 S5
    replace S5 : Sta w 25 [(3, (.row 5 1 ((jk txZ [32] As k0).length) (EqL (Lib.byteCells (jk txZ [32] As k0)))))] [(8, (Is (.bool true))), (4, (Is (.int .i64 k0))), (0, (Vv n As k))] B5 a5 W5 := S5
    refine wp_cond_true (S5.bool 0 8 rfl) ?_
    refine wp_skip ?_
    refine thenN ?_
    by_cases hk0 : 0 < k0
    · skip
      have hj3 := jk_next (f := txZ) (sep := [32]) ha hk0
      have hj4 : (jk txZ [32] As k0).length + 1 + (txZ a).length = (jk txZ [32] As (k0 + 1)).length := by rw [← hj3]; simp only [List.length_append, List.length_cons, List.length_nil]
      have hj6 : (jk txZ [32] As k0).length + 1 ≤ maxLen := by unfold maxLen; omega
      refine wp_seq ?_
      refine wp_block ?_
      refine wp_seq ?_
      refine wp_stmt_seq [.val (Is (.int .i64 k0)),
      .val (Is (.bool true))] [.inr 0] [.inl 1, .inr 0, .inr 1, .inr 2] follows S5 rfl (by kernel_rfl) ?_ ?_
      · refine ⟨⟨trivial, ?_⟩, ?_⟩
        · exact owe_move rfl (wants_all rfl) (Or.inl rfl) (opnd_slot 1 4 rfl (by kernel_rfl)) rfl
        · exact owe_bin rfl (wants_all rfl) rfl (opnd_op 0 11 (by kernel_rfl) rfl) (opnd_const _) rfl (fun ρ w h1 h2 => by exact run_gtr_int_t ρ _ _ _ w _ _ (by omega) h1 h2)
      intro B6 a6 W6 S6
      replace S6 : Sta w 25 [(3, (.row 5 1 ((jk txZ [32] As k0).length) (EqL (Lib.byteCells (jk txZ [32] As k0)))))] [(12, (Is (.bool true))), (8, (Is (.bool true))), (4, (Is (.int .i64 k0))), (0, (Vv n As k))] B6 a6 W6 := S6
      refine wp_cond_true (S6.bool 0 12 rfl) ?_
      refine wp_stmt [.val (Is (a6.eval (.tmp 3))),
      .val (Lit [32] w.heap.size),
      .mov 3 (.row 5 1 ((jk txZ [32] As k0).length + 1) (EqL (Lib.byteCells (jk txZ [32] As k0 ++ [32])))),
      .ref 2] [.inl 3] [.inr 0, .inr 1, .inr 2, .inr 3] follows S6 rfl (by kernel_rfl) ?_ ?_
      · refine ⟨⟨⟨⟨trivial, ?_⟩, ?_⟩, ?_⟩, ?_⟩
        · exact owe_same rfl (wants_all rfl) (Or.inl rfl) (by kernel_rfl) rfl
        · exact owe_lit rfl (wants_all rfl) rfl rfl lit_32
        · exact owe_append rfl (wants_all rfl) rfl (opnd_op 0 13 (by kernel_rfl) rfl) (k := 0) rfl (by kernel_rfl) ((opnd_op 1 14 (by kernel_rfl) rfl).imp (lit_src (m := 1) rfl (by decide))) einf_b1 Tryd.underlying50 (by decide) ⟨hj6, by omega⟩ rfl (fun xs ys w h1 h2 => by rw [h1, h2]; exact bc_app _ _)
        · exact owe_ref 2 rfl (wants_all rfl) (Or.inr rfl) (by kernel_rfl) rfl rfl
      intro B7 a7 W7 S7
      replace S7 : Sta w 25 [(3, (.row 5 1 ((jk txZ [32] As k0).length + 1) (EqL (Lib.byteCells (jk txZ [32] As k0 ++ [32])))))] [(12, (Is (.bool true))), (8, (Is (.bool true))), (4, (Is (.int .i64 k0))), (0, (Vv n As k))] B7 a7 W7 := S7
      refine thenN ?_
      refine wp_stmt [.val (Is (a7.eval (.tmp 3))),
      .val (Vv n As k),
      .val (Is (.int .i64 k0)),
      .val (AtE 2 (Zv a k)),
      .val (Zv a k),
      .val (Is (str (txZ a))),
      .mov 3 (.row 5 1 ((jk txZ [32] As (k0 + 1)).length) (EqL (Lib.byteCells (jk txZ [32] As (k0 + 1))))),
      .ref 6] [.inl 7] [.inr 0, .inr 1, .inr 2, .inr 3] follows S7 rfl (by kernel_rfl) ?_ ?_
      · refine ⟨⟨⟨⟨⟨⟨⟨⟨trivial, ?_⟩, ?_⟩, ?_⟩, ?_⟩, ?_⟩, ?_⟩, ?_⟩, ?_⟩
        · exact owe_same rfl (wants_all rfl) (Or.inl rfl) (by kernel_rfl) rfl
        · exact owe_move rfl (wants_all rfl) (Or.inl rfl) (opnd_slot 3 0 rfl (by kernel_rfl)) rfl
        · exact owe_move rfl (wants_all rfl) (Or.inl rfl) (opnd_slot 2 4 rfl (by kernel_rfl)) rfl
        · exact owe_aindex rfl (wants_all rfl) rfl idx_ints (opnd_op 1 17 (by kernel_rfl) rfl) (opnd_op 2 18 (by kernel_rfl) rfl) (map_get' (fun z => Zv z k) ha) rfl
        · exact owe_aload rfl (wants_all rfl) rfl ldr_int (by decide) (cel_shp (by decide) shp_zv) (opnd_op 3 19 (by kernel_rfl) rfl) rfl
        · exact owe_callh1 rfl (wants_all rfl) rfl (opnd_op 4 20 (by kernel_rfl) rfl) (fresh_is _) rfl (fun args w => by go_simp) (fun w u h => h_rztext hk w u h.now)
        · exact owe_appendS rfl (wants_all rfl) rfl (opnd_op 0 16 (by kernel_rfl) rfl) (k := 0) rfl (by kernel_rfl) (opnd_op 5 21 (by kernel_rfl) rfl) Tryd.underlying50 Tryd.underlying9 (by omega) hj4 (by rw [hj3]; rfl)
        · exact owe_ref 6 rfl (wants_all rfl) (Or.inr rfl) (by kernel_rfl) rfl rfl
      intro B8 a8 W8 S8
      replace S8 : Sta w 25 [(3, (.row 5 1 ((jk txZ [32] As (k0 + 1)).length) (EqL (Lib.byteCells (jk txZ [32] As (k0 + 1))))))] [(12, (Is (.bool true))), (8, (Is (.bool true))), (4, (Is (.int .i64 k0))), (0, (Vv n As k))] B8 a8 W8 := S8
      refine inBlkN ?_
      refine thenN ?_
      refine wp_stmt [.val (Is (.int .i64 k0)),
      .val (Is (.int .i64 (k0 + 1 : Nat))),
      .val (Is (.int .i64 (k0 + 1 : Nat)))] [.inr 0] [.inl 2, .inr 0, .inr 1, .inr 3] follows S8 rfl (by kernel_rfl) ?_ ?_
      · refine ⟨⟨⟨trivial, ?_⟩, ?_⟩, ?_⟩
        · exact owe_move rfl (wants_all rfl) (Or.inl rfl) (opnd_slot 2 4 rfl (by kernel_rfl)) rfl
        · exact owe_bin rfl (wants_all rfl) rfl (opnd_op 0 9 (by kernel_rfl) rfl) (opnd_const _) rfl (fun ρ w h1 h2 => by exact run_add_int ρ _ _ _ w _ _ _ ⟨by omega, by omega, by omega⟩ h1 h2)
        · exact owe_move rfl (wants_all rfl) (Or.inr rfl) (opnd_op 1 10 (by kernel_rfl) rfl) rfl
      intro B9 a9 W9 S9
      replace S9 : Sta w 25 [(3, (.row 5 1 ((jk txZ [32] As (k0 + 1)).length) (EqL (Lib.byteCells (jk txZ [32] As (k0 + 1))))))] [(4, (Is (.int .i64 (k0 + 1 : Nat)))), (12, (Is (.bool true))), (8, (Is (.bool true))), (0, (Vv n As k))] B9 a9 W9 := S9
      refine thenN ?_
      exact ⟨k0 + 1, ⟨by omega, B9, S9.sub [0] [0, 3]⟩, by omega⟩
    · skip
      have hj3 := jk_first (f := txZ) (sep := [32]) ha hk0
      have hj4 : (jk txZ [32] As k0).length + (txZ a).length = (jk txZ [32] As (k0 + 1)).length := by rw [← hj3]; simp [List.length_append]
      refine wp_seq ?_
      refine wp_block ?_
      refine wp_seq ?_
      refine wp_stmt_seq [.val (Is (.int .i64 k0)),
      .val (Is (.bool false))] [.inr 0] [.inl 1, .inr 0, .inr 1, .inr 2] follows S5 rfl (by kernel_rfl) ?_ ?_
      · refine ⟨⟨trivial, ?_⟩, ?_⟩
        · exact owe_move rfl (wants_all rfl) (Or.inl rfl) (opnd_slot 1 4 rfl (by kernel_rfl)) rfl
        · exact owe_bin rfl (wants_all rfl) rfl (opnd_op 0 11 (by kernel_rfl) rfl) (opnd_const _) rfl (fun ρ w h1 h2 => by exact run_gtr_int_f ρ _ _ _ w _ _ (by omega) h1 h2)
      intro B6 a6 W6 S6
      replace S6 : Sta w 25 [(3, (.row 5 1 ((jk txZ [32] As k0).length) (EqL (Lib.byteCells (jk txZ [32] As k0)))))] [(12, (Is (.bool false))), (8, (Is (.bool true))), (4, (Is (.int .i64 k0))), (0, (Vv n As k))] B6 a6 W6 := S6
      refine wp_cond_false (S6.bool 0 12 rfl) ?_
      refine wp_skip ?_
      refine thenN ?_
      refine wp_stmt [.val (Is (a6.eval (.tmp 3))),
      .val (Vv n As k),
      .val (Is (.int .i64 k0)),
      .val (AtE 2 (Zv a k)),
      .val (Zv a k),
      .val (Is (str (txZ a))),
      .mov 3 (.row 5 1 ((jk txZ [32] As (k0 + 1)).length) (EqL (Lib.byteCells (jk txZ [32] As (k0 + 1))))),
      .ref 6] [.inl 7] [.inr 0, .inr 1, .inr 2, .inr 3] follows S6 rfl (by kernel_rfl) ?_ ?_
      · refine ⟨⟨⟨⟨⟨⟨⟨⟨trivial, ?_⟩, ?_⟩, ?_⟩, ?_⟩, ?_⟩, ?_⟩, ?_⟩, ?_⟩
        · exact owe_same rfl (wants_all rfl) (Or.inl rfl) (by kernel_rfl) rfl
        · exact owe_move rfl (wants_all rfl) (Or.inl rfl) (opnd_slot 3 0 rfl (by kernel_rfl)) rfl
        · exact owe_move rfl (wants_all rfl) (Or.inl rfl) (opnd_slot 2 4 rfl (by kernel_rfl)) rfl
        · exact owe_aindex rfl (wants_all rfl) rfl idx_ints (opnd_op 1 17 (by kernel_rfl) rfl) (opnd_op 2 18 (by kernel_rfl) rfl) (map_get' (fun z => Zv z k) ha) rfl
        · exact owe_aload rfl (wants_all rfl) rfl ldr_int (by decide) (cel_shp (by decide) shp_zv) (opnd_op 3 19 (by kernel_rfl) rfl) rfl
        · exact owe_callh1 rfl (wants_all rfl) rfl (opnd_op 4 20 (by kernel_rfl) rfl) (fresh_is _) rfl (fun args w => by go_simp) (fun w u h => h_rztext hk w u h.now)
        · exact owe_appendS rfl (wants_all rfl) rfl (opnd_op 0 16 (by kernel_rfl) rfl) (k := 0) rfl (by kernel_rfl) (opnd_op 5 21 (by kernel_rfl) rfl) Tryd.underlying50 Tryd.underlying9 (by omega) hj4 (by rw [hj3]; rfl)
        · exact owe_ref 6 rfl (wants_all rfl) (Or.inr rfl) (by kernel_rfl) rfl rfl
      intro B7 a7 W7 S7
      replace S7 : Sta w 25 [(3, (.row 5 1 ((jk txZ [32] As (k0 + 1)).length) (EqL (Lib.byteCells (jk txZ [32] As (k0 + 1))))))] [(12, (Is (.bool false))), (8, (Is (.bool true))), (4, (Is (.int .i64 k0))), (0, (Vv n As k))] B7 a7 W7 := S7
      refine inBlkN ?_
      refine thenN ?_
      refine wp_stmt [.val (Is (.int .i64 k0)),
      .val (Is (.int .i64 (k0 + 1 : Nat))),
      .val (Is (.int .i64 (k0 + 1 : Nat)))] [.inr 0] [.inl 2, .inr 0, .inr 1, .inr 3] follows S7 rfl (by kernel_rfl) ?_ ?_
      · refine ⟨⟨⟨trivial, ?_⟩, ?_⟩, ?_⟩
        · exact owe_move rfl (wants_all rfl) (Or.inl rfl) (opnd_slot 2 4 rfl (by kernel_rfl)) rfl
        · exact owe_bin rfl (wants_all rfl) rfl (opnd_op 0 9 (by kernel_rfl) rfl) (opnd_const _) rfl (fun ρ w h1 h2 => by exact run_add_int ρ _ _ _ w _ _ _ ⟨by omega, by omega, by omega⟩ h1 h2)
        · exact owe_move rfl (wants_all rfl) (Or.inr rfl) (opnd_op 1 10 (by kernel_rfl) rfl) rfl
      intro B8 a8 W8 S8
      replace S8 : Sta w 25 [(3, (.row 5 1 ((jk txZ [32] As (k0 + 1)).length) (EqL (Lib.byteCells (jk txZ [32] As (k0 + 1))))))] [(4, (Is (.int .i64 (k0 + 1 : Nat)))), (12, (Is (.bool false))), (8, (Is (.bool true))), (0, (Vv n As k))] B8 a8 W8 := S8
      refine thenN ?_
      exact ⟨k0 + 1, ⟨by omega, B8, S8.sub [0] [0, 3]⟩, by omega⟩
  · have hend := jk_end (f := txZ) (sep := [32]) (l := As) (k := k0) (by omega)
    have hend2 : jk txZ [32] As k0 = txV As := hend
    refine wp_seq ?_
    refine wp_stmt_seq [.val (Is (.int .i64 k0)),
      .val (Vv n As k),
      .val (Is (.int .i64 (n : Nat))),
      .val (Is (.bool false))] [.inr 0] [.inl 3, .inr 0, .inr 1] follows S4 rfl (by kernel_rfl) ?_ ?_
    · refine ⟨⟨⟨⟨trivial, ?_⟩, ?_⟩, ?_⟩, ?_⟩
      · exact owe_move rfl (wants_all rfl) (Or.inl rfl) (opnd_slot 0 4 rfl (by kernel_rfl)) rfl
      · exact owe_move rfl (wants_all rfl) (Or.inl rfl) (opnd_slot 1 0 rfl (by kernel_rfl)) rfl
      · exact owe_len rfl (wants_all rfl) rfl (opnd_op 1 6 (by kernel_rfl) rfl) ar_len Tryd.underlying23 rfl
      · exact owe_bin rfl (wants_all rfl) rfl (opnd_op 0 5 (by kernel_rfl) rfl) (opnd_op 2 7 (by kernel_rfl) rfl) rfl (fun ρ w h1 h2 => by exact run_lss_int_f ρ _ _ _ w _ _ (by omega) h1 h2)
    intro B5 a5 W5 S5
    replace S5 : Sta w 25 [(3, (.row 5 1 ((jk txZ [32] As k0).length) (EqL (Lib.byteCells (jk txZ [32] As k0)))))] [(8, (Is (.bool false))), (4, (Is (.int .i64 k0))), (0, (Vv n As k))] B5 a5 W5 := S5
    refine wp_cond_false (S5.bool 0 8 rfl) ?_
    refine wp_exit ?_
    refine thenX ?_
    refine thenX ?_
    refine inBlkE ?_
    refine thenN ?_
    refine wp_stmt_seq [.val (Is (a5.eval (.tmp 3))),
      .val (Is (str (txV As))),
      .val (Is (str (txV As)))] [.inr 0] [.inl 2, .inr 0, .inr 1, .inr 2] follows S5 rfl (by kernel_rfl) ?_ ?_
    · refine ⟨⟨⟨trivial, ?_⟩, ?_⟩, ?_⟩
      · exact owe_same rfl (wants_all rfl) (Or.inl rfl) (by kernel_rfl) rfl
      · exact owe_strB rfl (wants_all rfl) rfl (opnd_op 0 23 (by kernel_rfl) rfl) (k := 0) rfl (by kernel_rfl) Tryd.underlying50 Tryd.underlying5 Tryd.underlying9 (by rw [hend2]; rfl)
      · exact owe_move rfl (wants_all rfl) (Or.inr rfl) (opnd_op 1 24 (by kernel_rfl) rfl) rfl
    intro B6 a6 W6 S6
    replace S6 : Sta w 25 [(3, (.row 5 1 ((jk txZ [32] As k0).length) (EqL (Lib.byteCells (jk txZ [32] As k0)))))] [(2, (Is (str (txV As)))), (8, (Is (.bool false))), (4, (Is (.int .i64 k0))), (0, (Vv n As k))] B6 a6 W6 := S6
    refine wp_ret ?_
    exact end_one S6 rfl (res_tmp S6 0 2 rfl)

set_option maxHeartbeats 1000000 in
theorem rtextm_w (w : World) (u : Value) (n k : Nat) (A : List (List Int)) (h : Hs w (Mv n A k) u) (hn : n ≤ 1048576) (hk : k ≤ 1048576) (hl : Ml A 1048576) (hlr : ∀ r, r ∈ A → (txV r).length ≤ 140737488355328) (hlen : (txM A).length ≤ 140737488355328) :
    Calls Tryd.prog 8 #[u] w (Gives (IS (str (txM A))) w) := by
  have hlA := mv_len h.now
  refine calls_sta (sl := [(0, (Mv n A k))]) Tryd.func8 rfl Tryd.ntmps8 (by simp) (args_cons rfl (h) args_nil) ?_
  intro a0 S0
  refine wp_stmt_seq [.val (Is (.string (ByteArray.mk #[])))] [] [.inl 0, .inr 0] follows S0 rfl (by kernel_rfl) ?_ ?_
  · refine ⟨trivial, ?_⟩
    · exact owe_move rfl (wants_all rfl) (Or.inr rfl) (opnd_const _) rfl
  intro B1 a1 W1 S1
  replace S1 : Sta w 25 [] [(2, (Is (.string (ByteArray.mk #[])))), (0, (Mv n A k))] B1 a1 W1 := S1
  refine wp_stmt_seq [.new (.row 5 1 0 (EqL (Lib.byteCells (jk txV [59, 32] A 0))))] [.inl 0] [.inr 0, .inr 1] follows S1 rfl (by kernel_rfl) ?_ ?_
  · refine ⟨trivial, ?_⟩
    · exact owe_nilrow rfl (wants_all rfl) rfl rfl (fun w => rfl)
  intro B2 a2 W2 S2
  replace S2 : Sta w 25 [(3, (.row 5 1 0 (EqL (Lib.byteCells (jk txV [59, 32] A 0)))))] [(2, (Is (.string (ByteArray.mk #[])))), (0, (Mv n A k))] B2 a2 W2 := S2
  refine wp_seq ?_
  refine wp_stmt_seq [.val (Is (.int .i64 0))] [.inr 0] [.inl 0, .inr 0, .inr 1] follows S2 rfl (by kernel_rfl) ?_ ?_
  · refine ⟨trivial, ?_⟩
    · exact owe_move rfl (wants_all rfl) (Or.inr rfl) (opnd_const _) rfl
  intro B3 a3 W3 S3
  replace S3 : Sta w 25 [(3, (.row 5 1 0 (EqL (Lib.byteCells (jk txV [59, 32] A 0)))))] [(4, (Is (.int .i64 0))), (2, (Is (.string (ByteArray.mk #[])))), (0, (Mv n A k))] B3 a3 W3 := S3
  refine wp_block ?_
  refine wp_loop_ghost (fun (k0 : Nat) a W => (k0 ≤ n) ∧ ∃ Bq, Sta w 25 [(3, (.row 5 1 ((jk txV [59, 32] A k0).length) (EqL (Lib.byteCells (jk txV [59, 32] A k0)))))] [(4, (Is (.int .i64 k0))), (0, (Mv n A k))] Bq a W) (fun (k0 : Nat) => n - k0) ?_ 0 ⟨Nat.zero_le _, B3, S3.sub [0] [0, 2]⟩
  rintro k0 a4 W4 ⟨hcond, B4, S4⟩
  by_cases hlt : k0 < n
  · obtain ⟨a, ha⟩ : ∃ a, A[k0]? = some a := ⟨A[k0]'(by omega), List.getElem?_eq_getElem _⟩
    have hj1 := jk_le txV [59, 32] A (k0 + 1)
    have hj2 := jk_le txV [59, 32] A k0
    have hlen' : (Lib.join (A.map txV) [59, 32]).length ≤ 140737488355328 := hlen
    refine wp_seq ?_
    refine wp_stmt_seq [.val (Is (.int .i64 k0)),
      .val (Mv n A k),
      .val (Is (.int .i64 (n : Nat))),
      .val (Is (.bool true))] [.inr 0] [.inl 3, .inr 0, .inr 1] follows S4 rfl (by kernel_rfl) ?_ ?_
    · refine ⟨⟨⟨⟨trivial, ?_⟩, ?_⟩, ?_⟩, ?_⟩
      · exact owe_move rfl (wants_all rfl) (Or.inl rfl) (opnd_slot 0 4 rfl (by kernel_rfl)) rfl
      · exact owe_move rfl (wants_all rfl) (Or.inl rfl) (opnd_slot 1 0 rfl (by kernel_rfl)) rfl
      · exact owe_len rfl (wants_all rfl) rfl (opnd_op 1 6 (by kernel_rfl) rfl) ar_len Tryd.underlying22 rfl
      · exact owe_bin rfl (wants_all rfl) rfl (opnd_op 0 5 (by kernel_rfl) rfl) (opnd_op 2 7 (by kernel_rfl) rfl) rfl (fun ρ w h1 h2 => by exact run_lss_int_t ρ _ _ _ w _ _ (by omega) h1 h2)
    intro B5 a5 W5 S5
    replace S5 : Sta w 25 [(3, (.row 5 1 ((jk txV [59, 32] A k0).length) (EqL (Lib.byteCells (jk txV [59, 32] A k0)))))] [(8, (Is (.bool true))), (4, (Is (.int .i64 k0))), (0, (Mv n A k))] B5 a5 W5 := S5
    refine wp_cond_true (S5.bool 0 8 rfl) ?_
    refine wp_skip ?_
    refine thenN ?_
    by_cases hk0 : 0 < k0
    · skip
      have hj3 := jk_next (f := txV) (sep := [59, 32]) ha hk0
      have hj4 : (jk txV [59, 32] A k0).length + 2 + (txV a).length = (jk txV [59, 32] A (k0 + 1)).length := by rw [← hj3]; simp only [List.length_append, List.length_cons, List.length_nil]
      have hj6 : (jk txV [59, 32] A k0).length + 2 ≤ maxLen := by unfold maxLen; omega
      refine wp_seq ?_
      refine wp_block ?_
      refine wp_seq ?_
      refine wp_stmt_seq [.val (Is (.int .i64 k0)),
      .val (Is (.bool true))] [.inr 0] [.inl 1, .inr 0, .inr 1, .inr 2] follows S5 rfl (by kernel_rfl) ?_ ?_
      · refine ⟨⟨trivial, ?_⟩, ?_⟩
        · exact owe_move rfl (wants_all rfl) (Or.inl rfl) (opnd_slot 1 4 rfl (by kernel_rfl)) rfl
        · exact owe_bin rfl (wants_all rfl) rfl (opnd_op 0 11 (by kernel_rfl) rfl) (opnd_const _) rfl (fun ρ w h1 h2 => by exact run_gtr_int_t ρ _ _ _ w _ _ (by omega) h1 h2)
      intro B6 a6 W6 S6
      replace S6 : Sta w 25 [(3, (.row 5 1 ((jk txV [59, 32] A k0).length) (EqL (Lib.byteCells (jk txV [59, 32] A k0)))))] [(12, (Is (.bool true))), (8, (Is (.bool true))), (4, (Is (.int .i64 k0))), (0, (Mv n A k))] B6 a6 W6 := S6
      refine wp_cond_true (S6.bool 0 12 rfl) ?_
      refine wp_stmt [.val (Is (a6.eval (.tmp 3))),
      .val (Lit [59, 32] w.heap.size),
      .mov 3 (.row 5 1 ((jk txV [59, 32] A k0).length + 2) (EqL (Lib.byteCells (jk txV [59, 32] A k0 ++ [59, 32])))),
      .ref 2] [.inl 3] [.inr 0, .inr 1, .inr 2, .inr 3] follows S6 rfl (by kernel_rfl) ?_ ?_
      · refine ⟨⟨⟨⟨trivial, ?_⟩, ?_⟩, ?_⟩, ?_⟩
        · exact owe_same rfl (wants_all rfl) (Or.inl rfl) (by kernel_rfl) rfl
        · exact owe_lit rfl (wants_all rfl) rfl rfl lit_59_32
        · exact owe_append rfl (wants_all rfl) rfl (opnd_op 0 13 (by kernel_rfl) rfl) (k := 0) rfl (by kernel_rfl) ((opnd_op 1 14 (by kernel_rfl) rfl).imp (lit_src (m := 2) rfl (by decide))) einf_b1 Tryd.underlying50 (by decide) ⟨hj6, by omega⟩ rfl (fun xs ys w h1 h2 => by rw [h1, h2]; exact bc_app _ _)
        · exact owe_ref 2 rfl (wants_all rfl) (Or.inr rfl) (by kernel_rfl) rfl rfl
      intro B7 a7 W7 S7
      replace S7 : Sta w 25 [(3, (.row 5 1 ((jk txV [59, 32] A k0).length + 2) (EqL (Lib.byteCells (jk txV [59, 32] A k0 ++ [59, 32])))))] [(12, (Is (.bool true))), (8, (Is (.bool true))), (4, (Is (.int .i64 k0))), (0, (Mv n A k))] B7 a7 W7 := S7
      refine thenN ?_
      refine wp_stmt [.val (Is (a7.eval (.tmp 3))),
      .val (Mv n A k),
      .val (Is (.int .i64 k0)),
      .val (AtE 1 (Vv (a.length) a k)),
      .val (Vv (a.length) a k),
      .val (Is (str (txV a))),
      .mov 3 (.row 5 1 ((jk txV [59, 32] A (k0 + 1)).length) (EqL (Lib.byteCells (jk txV [59, 32] A (k0 + 1))))),
      .ref 6] [.inl 7] [.inr 0, .inr 1, .inr 2, .inr 3] follows S7 rfl (by kernel_rfl) ?_ ?_
      · refine ⟨⟨⟨⟨⟨⟨⟨⟨trivial, ?_⟩, ?_⟩, ?_⟩, ?_⟩, ?_⟩, ?_⟩, ?_⟩, ?_⟩
        · exact owe_same rfl (wants_all rfl) (Or.inl rfl) (by kernel_rfl) rfl
        · exact owe_move rfl (wants_all rfl) (Or.inl rfl) (opnd_slot 3 0 rfl (by kernel_rfl)) rfl
        · exact owe_move rfl (wants_all rfl) (Or.inl rfl) (opnd_slot 2 4 rfl (by kernel_rfl)) rfl
        · exact owe_aindex rfl (wants_all rfl) rfl idx_rows (opnd_op 1 17 (by kernel_rfl) rfl) (opnd_op 2 18 (by kernel_rfl) rfl) (map_get' (fun zs => Vv zs.length zs k) ha) rfl
        · exact owe_aload rfl (wants_all rfl) rfl ldr_row1 (by decide) cel_vv (opnd_op 3 19 (by kernel_rfl) rfl) rfl
        · exact owe_callh1 rfl (wants_all rfl) rfl (opnd_op 4 20 (by kernel_rfl) rfl) (fresh_is _) rfl (fun args w => by go_simp) (fun w u h => rtextv_w w u _ _ _ h (hl k0 a ha) hk (hlr a (List.mem_of_getElem? ha)))
        · exact owe_appendS rfl (wants_all rfl) rfl (opnd_op 0 16 (by kernel_rfl) rfl) (k := 0) rfl (by kernel_rfl) (opnd_op 5 21 (by kernel_rfl) rfl) Tryd.underlying50 Tryd.underlying9 (by omega) hj4 (by rw [hj3]; rfl)
        · exact owe_ref 6 rfl (wants_all rfl) (Or.inr rfl) (by kernel_rfl) rfl rfl
      intro B8 a8 W8 S8
      replace S8 : Sta w 25 [(3, (.row 5 1 ((jk txV [59, 32] A (k0 + 1)).length) (EqL (Lib.byteCells (jk txV [59, 32] A (k0 + 1))))))] [(12, (Is (.bool true))), (8, (Is (.bool true))), (4, (Is (.int .i64 k0))), (0, (Mv n A k))] B8 a8 W8 := S8
      refine inBlkN ?_
      refine thenN ?_
      refine wp_stmt [.val (Is (.int .i64 k0)),
      .val (Is (.int .i64 (k0 + 1 : Nat))),
      .val (Is (.int .i64 (k0 + 1 : Nat)))] [.inr 0] [.inl 2, .inr 0, .inr 1, .inr 3] follows S8 rfl (by kernel_rfl) ?_ ?_
      · refine ⟨⟨⟨trivial, ?_⟩, ?_⟩, ?_⟩
        · exact owe_move rfl (wants_all rfl) (Or.inl rfl) (opnd_slot 2 4 rfl (by kernel_rfl)) rfl
        · exact owe_bin rfl (wants_all rfl) rfl (opnd_op 0 9 (by kernel_rfl) rfl) (opnd_const _) rfl (fun ρ w h1 h2 => by exact run_add_int ρ _ _ _ w _ _ _ ⟨by omega, by omega, by omega⟩ h1 h2)
        · exact owe_move rfl (wants_all rfl) (Or.inr rfl) (opnd_op 1 10 (by kernel_rfl) rfl) rfl
      intro B9 a9 W9 S9
      replace S9 : Sta w 25 [(3, (.row 5 1 ((jk txV [59, 32] A (k0 + 1)).length) (EqL (Lib.byteCells (jk txV [59, 32] A (k0 + 1))))))] [(4, (Is (.int .i64 (k0 + 1 : Nat)))), (12, (Is (.bool true))), (8, (Is (.bool true))), (0, (Mv n A k))] B9 a9 W9 := S9
      refine thenN ?_
      exact ⟨k0 + 1, ⟨by omega, B9, S9.sub [0] [0, 3]⟩, by omega⟩
    · skip
      have hj3 := jk_first (f := txV) (sep := [59, 32]) ha hk0
      have hj4 : (jk txV [59, 32] A k0).length + (txV a).length = (jk txV [59, 32] A (k0 + 1)).length := by rw [← hj3]; simp [List.length_append]
      refine wp_seq ?_
      refine wp_block ?_
      refine wp_seq ?_
      refine wp_stmt_seq [.val (Is (.int .i64 k0)),
      .val (Is (.bool false))] [.inr 0] [.inl 1, .inr 0, .inr 1, .inr 2] follows S5 rfl (by kernel_rfl) ?_ ?_
      · refine ⟨⟨trivial, ?_⟩, ?_⟩
        · exact owe_move rfl (wants_all rfl) (Or.inl rfl) (opnd_slot 1 4 rfl (by kernel_rfl)) rfl
        · exact owe_bin rfl (wants_all rfl) rfl (opnd_op 0 11 (by kernel_rfl) rfl) (opnd_const _) rfl (fun ρ w h1 h2 => by exact run_gtr_int_f ρ _ _ _ w _ _ (by omega) h1 h2)
      intro B6 a6 W6 S6
      replace S6 : Sta w 25 [(3, (.row 5 1 ((jk txV [59, 32] A k0).length) (EqL (Lib.byteCells (jk txV [59, 32] A k0)))))] [(12, (Is (.bool false))), (8, (Is (.bool true))), (4, (Is (.int .i64 k0))), (0, (Mv n A k))] B6 a6 W6 := S6
      refine wp_cond_false (S6.bool 0 12 rfl) ?_
      refine wp_skip ?_
      refine thenN ?_
      refine wp_stmt [.val (Is (a6.eval (.tmp 3))),
      .val (Mv n A k),
      .val (Is (.int .i64 k0)),
      .val (AtE 1 (Vv (a.length) a k)),
      .val (Vv (a.length) a k),
      .val (Is (str (txV a))),
      .mov 3 (.row 5 1 ((jk txV [59, 32] A (k0 + 1)).length) (EqL (Lib.byteCells (jk txV [59, 32] A (k0 + 1))))),
      .ref 6] [.inl 7] [.inr 0, .inr 1, .inr 2, .inr 3] follows S6 rfl (by kernel_rfl) ?_ ?_
      · refine ⟨⟨⟨⟨⟨⟨⟨⟨trivial, ?_⟩, ?_⟩, ?_⟩, ?_⟩, ?_⟩, ?_⟩, ?_⟩, ?_⟩
        · exact owe_same rfl (wants_all rfl) (Or.inl rfl) (by kernel_rfl) rfl
        · exact owe_move rfl (wants_all rfl) (Or.inl rfl) (opnd_slot 3 0 rfl (by kernel_rfl)) rfl
        · exact owe_move rfl (wants_all rfl) (Or.inl rfl) (opnd_slot 2 4 rfl (by kernel_rfl)) rfl
        · exact owe_aindex rfl (wants_all rfl) rfl idx_rows (opnd_op 1 17 (by kernel_rfl) rfl) (opnd_op 2 18 (by kernel_rfl) rfl) (map_get' (fun zs => Vv zs.length zs k) ha) rfl
        · exact owe_aload rfl (wants_all rfl) rfl ldr_row1 (by decide) cel_vv (opnd_op 3 19 (by kernel_rfl) rfl) rfl
        · exact owe_callh1 rfl (wants_all rfl) rfl (opnd_op 4 20 (by kernel_rfl) rfl) (fresh_is _) rfl (fun args w => by go_simp) (fun w u h => rtextv_w w u _ _ _ h (hl k0 a ha) hk (hlr a (List.mem_of_getElem? ha)))
        · exact owe_appendS rfl (wants_all rfl) rfl (opnd_op 0 16 (by kernel_rfl) rfl) (k := 0) rfl (by kernel_rfl) (opnd_op 5 21 (by kernel_rfl) rfl) Tryd.underlying50 Tryd.underlying9 (by omega) hj4 (by rw [hj3]; rfl)
        · exact owe_ref 6 rfl (wants_all rfl) (Or.inr rfl) (by kernel_rfl) rfl rfl
      intro B7 a7 W7 S7
      replace S7 : Sta w 25 [(3, (.row 5 1 ((jk txV [59, 32] A (k0 + 1)).length) (EqL (Lib.byteCells (jk txV [59, 32] A (k0 + 1))))))] [(12, (Is (.bool false))), (8, (Is (.bool true))), (4, (Is (.int .i64 k0))), (0, (Mv n A k))] B7 a7 W7 := S7
      refine inBlkN ?_
      refine thenN ?_
      refine wp_stmt [.val (Is (.int .i64 k0)),
      .val (Is (.int .i64 (k0 + 1 : Nat))),
      .val (Is (.int .i64 (k0 + 1 : Nat)))] [.inr 0] [.inl 2, .inr 0, .inr 1, .inr 3] follows S7 rfl (by kernel_rfl) ?_ ?_
      · refine ⟨⟨⟨trivial, ?_⟩, ?_⟩, ?_⟩
        · exact owe_move rfl (wants_all rfl) (Or.inl rfl) (opnd_slot 2 4 rfl (by kernel_rfl)) rfl
        · exact owe_bin rfl (wants_all rfl) rfl (opnd_op 0 9 (by kernel_rfl) rfl) (opnd_const _) rfl (fun ρ w h1 h2 => by exact run_add_int ρ _ _ _ w _ _ _ ⟨by omega, by omega, by omega⟩ h1 h2)
        · exact owe_move rfl (wants_all rfl) (Or.inr rfl) (opnd_op 1 10 (by kernel_rfl) rfl) rfl
      intro B8 a8 W8 S8
      replace S8 : Sta w 25 [(3, (.row 5 1 ((jk txV [59, 32] A (k0 + 1)).length) (EqL (Lib.byteCells (jk txV [59, 32] A (k0 + 1))))))] [(4, (Is (.int .i64 (k0 + 1 : Nat)))), (12, (Is (.bool false))), (8, (Is (.bool true))), (0, (Mv n A k))] B8 a8 W8 := S8
      refine thenN ?_
      exact ⟨k0 + 1, ⟨by omega, B8, S8.sub [0] [0, 3]⟩, by omega⟩
  · have hend := jk_end (f := txV) (sep := [59, 32]) (l := A) (k := k0) (by omega)
    have hend2 : jk txV [59, 32] A k0 = txM A := hend
    refine wp_seq ?_
    refine wp_stmt_seq [.val (Is (.int .i64 k0)),
      .val (Mv n A k),
      .val (Is (.int .i64 (n : Nat))),
      .val (Is (.bool false))] [.inr 0] [.inl 3, .inr 0, .inr 1] follows S4 rfl (by kernel_rfl) ?_ ?_
    · refine ⟨⟨⟨⟨trivial, ?_⟩, ?_⟩, ?_⟩, ?_⟩
      · exact owe_move rfl (wants_all rfl) (Or.inl rfl) (opnd_slot 0 4 rfl (by kernel_rfl)) rfl
      · exact owe_move rfl (wants_all rfl) (Or.inl rfl) (opnd_slot 1 0 rfl (by kernel_rfl)) rfl
      · exact owe_len rfl (wants_all rfl) rfl (opnd_op 1 6 (by kernel_rfl) rfl) ar_len Tryd.underlying22 rfl
      · exact owe_bin rfl (wants_all rfl) rfl (opnd_op 0 5 (by kernel_rfl) rfl) (opnd_op 2 7 (by kernel_rfl) rfl) rfl (fun ρ w h1 h2 => by exact run_lss_int_f ρ _ _ _ w _ _ (by omega) h1 h2)
    intro B5 a5 W5 S5
    replace S5 : Sta w 25 [(3, (.row 5 1 ((jk txV [59, 32] A k0).length) (EqL (Lib.byteCells (jk txV [59, 32] A k0)))))] [(8, (Is (.bool false))), (4, (Is (.int .i64 k0))), (0, (Mv n A k))] B5 a5 W5 := S5
    refine wp_cond_false (S5.bool 0 8 rfl) ?_
    refine wp_exit ?_
    refine thenX ?_
    refine thenX ?_
    refine inBlkE ?_
    refine thenN ?_
    refine wp_stmt_seq [.val (Is (a5.eval (.tmp 3))),
      .val (Is (str (txM A))),
      .val (Is (str (txM A)))] [.inr 0] [.inl 2, .inr 0, .inr 1, .inr 2] follows S5 rfl (by kernel_rfl) ?_ ?_
    · refine ⟨⟨⟨trivial, ?_⟩, ?_⟩, ?_⟩
      · exact owe_same rfl (wants_all rfl) (Or.inl rfl) (by kernel_rfl) rfl
      · exact owe_strB rfl (wants_all rfl) rfl (opnd_op 0 23 (by kernel_rfl) rfl) (k := 0) rfl (by kernel_rfl) Tryd.underlying50 Tryd.underlying5 Tryd.underlying9 (by rw [hend2]; rfl)
      · exact owe_move rfl (wants_all rfl) (Or.inr rfl) (opnd_op 1 24 (by kernel_rfl) rfl) rfl
    intro B6 a6 W6 S6
    replace S6 : Sta w 25 [(3, (.row 5 1 ((jk txV [59, 32] A k0).length) (EqL (Lib.byteCells (jk txV [59, 32] A k0)))))] [(2, (Is (str (txM A)))), (8, (Is (.bool false))), (4, (Is (.int .i64 k0))), (0, (Mv n A k))] B6 a6 W6 := S6
    refine wp_ret ?_
    exact end_one S6 rfl (res_tmp S6 0 2 rfl)

end Go.Proofs.YtdhjgekbocnnkaaDoor
