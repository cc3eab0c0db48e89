/-
  The order of vectors, their first entries, upright ones: mat and the document.
-/
import Derived.Test.YtdhjgekbocnnkaaDoorSetV
namespace Go.Proofs.YtdhjgekbocnnkaaDoor
open Go Go.RowKit Nt
set_option linter.unusedSimpArgs false
set_option linter.unusedVariables false
set_option maxRecDepth 20000


/-! The order of lists, and the first that is not 0. -/
def ordZ : List Int → List Int → Int
  | [], [] => 0
  | [], _ :: _ => -1
  | _ :: _, [] => 1
  | a :: r, b :: s => if (a - b).sign = 0 then ordZ r s else (a - b).sign
theorem drop_at {α : Type} {l : List α} {k : Nat} {a : α} (h : l[k]? = some a) : l.drop k = a :: l.drop (k + 1) := by
  obtain ⟨hlt, e⟩ := List.getElem?_eq_some_iff.1 h
  rw [List.drop_eq_getElem_cons hlt, e]
theorem ord_go {As Bs : List Int} {k : Nat} {a b : Int} (ha : As[k]? = some a) (hb : Bs[k]? = some b) (h : (a - b).sign = 0) : ordZ (As.drop k) (Bs.drop k) = ordZ (As.drop (k + 1)) (Bs.drop (k + 1)) := by
  rw [drop_at ha, drop_at hb, ordZ, if_pos h]
theorem ord_stop {As Bs : List Int} {k : Nat} {a b : Int} (ha : As[k]? = some a) (hb : Bs[k]? = some b) (h : (a - b).sign ≠ 0) : ordZ (As.drop k) (Bs.drop k) = (a - b).sign := by
  rw [drop_at ha, drop_at hb, ordZ, if_neg h]
theorem ord_end {As Bs : List Int} {k n m : Nat} (hA : As.length = n) (hB : Bs.length = m) (h1 : k ≤ n) (h2 : k ≤ m) (h3 : n = k ∨ m = k) : ordZ (As.drop k) (Bs.drop k) = if n < m then -1 else if m < n then 1 else 0 := by
  rcases h3 with h3 | h3
  · rw [List.drop_of_length_le (l := As) (by omega)]
    by_cases h : n < m
    · obtain ⟨b, hb⟩ : ∃ b, Bs[k]? = some b := ⟨Bs[k]'(by omega), List.getElem?_eq_getElem _⟩
      rw [drop_at hb, if_pos h]
      rfl
    · rw [List.drop_of_length_le (l := Bs) (by omega), if_neg h, if_neg (by omega)]
      rfl
  · rw [List.drop_of_length_le (l := Bs) (by omega), if_neg (by omega)]
    by_cases h : m < n
    · obtain ⟨a, ha⟩ : ∃ a, As[k]? = some a := ⟨As[k]'(by omega), List.getElem?_eq_getElem _⟩
      rw [drop_at ha, if_pos h]
      rfl
    · rw [List.drop_of_length_le (l := As) (by omega), if_neg h]
      rfl
def leadZ : List Int → Int
  | [] => -1
  | a :: r => if a = 0 then (if leadZ r < 0 then -1 else leadZ r + 1) else 0
theorem lead_at : ∀ {As : List Int} {k : Nat} {a : Int}, (∀ (j : Nat) x, j < k → As[j]? = some x → x = 0) → As[k]? = some a → a ≠ 0 → leadZ As = k
  | [], k, a, _, h, _ => by simp at h
  | x :: r, 0, a, _, h, hne => by
    simp at h
    subst h
    rw [leadZ, if_neg hne]
    rfl
  | x :: r, k + 1, a, hz, h, hne => by
    have h0 := hz 0 x (by omega) rfl
    have := lead_at (As := r) (k := k) (a := a) (fun j y hj hy => hz (j + 1) y (by omega) (by simpa using hy)) (by simpa using h) hne
    rw [leadZ, if_pos h0, this, if_neg (by omega)]
    omega
theorem lead_none : ∀ {As : List Int}, (∀ (j : Nat) x, As[j]? = some x → x = 0) → leadZ As = -1
  | [], _ => rfl
  | x :: r, h => by
    rw [leadZ, if_pos (h 0 x rfl), lead_none (fun j y hy => h (j + 1) y (by simpa using hy))]
    rfl
theorem lead_cases (As : List Int) : (leadZ As = -1 ∧ ∀ (j : Nat) x, As[j]? = some x → x = 0) ∨ ∃ (k : Nat) (a : Int), leadZ As = k ∧ As[k]? = some a ∧ a ≠ 0 ∧ ∀ (j : Nat) x, j < k → As[j]? = some x → x = 0 := by
  induction As with
  | nil => exact Or.inl ⟨rfl, fun j x h => by simp at h⟩
  | cons a r ih =>
    by_cases h : a = 0
    · rcases ih with ⟨h1, h2⟩ | ⟨k, b, h1, h2, h3, h4⟩
      · refine Or.inl ⟨by rw [leadZ, if_pos h, h1]; rfl, fun j x hx => ?_⟩
        cases j with
        | zero => simp at hx; omega
        | succ j => exact h2 j x (by simpa using hx)
      · refine Or.inr ⟨k + 1, b, by rw [leadZ, if_pos h, h1, if_neg (by omega)]; omega, by simpa using h2, h3, fun j x hj hx => ?_⟩
        cases j with
        | zero => simp at hx; omega
        | succ j => exact h4 j x (by omega) (by simpa using hx)
    · exact Or.inr ⟨0, a, by rw [leadZ, if_neg h]; rfl, rfl, h, fun j x hj => by omega⟩
/-- Upright. -/
def upK (As : List Int) : Int := if (As.getD (leadZ As).toNat 0).sign < 0 then -1 else 1
def upZ (As : List Int) : List Int := As.map (fun a => upK As * a)
theorem upK_up {As : List Int} (h : upK As = 1) : upZ As = As.map (fun a => a) := by unfold upZ; rw [h]; exact List.map_congr_left (fun a _ => Int.one_mul a)
theorem upK_dn {As : List Int} (h : upK As = -1) : upZ As = As.map (fun a => -a) := by unfold upZ; rw [h]; exact List.map_congr_left (fun a _ => by omega)
theorem upK_none {As : List Int} (h : ∀ (j : Nat) x, As[j]? = some x → x = 0) : upK As = 1 := by
  unfold upK
  rw [if_neg]
  rw [List.getD_eq_getElem?_getD]
  cases hx : As[(leadZ As).toNat]? with
  | none => simp
  | some x => rw [h _ x hx]; simp
theorem upK_at {As : List Int} {k : Nat} {a : Int} (h : leadZ As = k) (ha : As[k]? = some a) : upK As = if a.sign < 0 then -1 else 1 := by
  unfold upK
  rw [h, Int.toNat_natCast, List.getD_eq_getElem?_getD, ha]
  rfl

set_option maxHeartbeats 400000 in
theorem cmpf_w (w : World) (u v f : Value) (n m k k' : Nat) (As Bs : List Int) (h : Hs w (Vv n As k) u) (h' : Hs w (Vv m Bs k') v) (hn : n ≤ 1048576) (hm : m ≤ 1048576) (hs : k ≤ 1073741824) (hs' : k' ≤ 1073741824) (hf : Hs w (Fn2 (As.map (fun z => Zv z k)) (Bs.map (fun z => Zv z k')) (List.zipWith (fun a b => IS (.int .i64 (a - b).sign)) As Bs)) f) :
    Calls Tryd.prog 37 #[u, v, f] w (Gives (IS (.int .i64 (ordZ As Bs))) w) := by
  have hA := vv_len h.now
  have hB := vv_len h'.now
  refine calls_sta (sl := [(0, (Vv n As k)), (1, (Vv m Bs k')), (2, (Fn2 (As.map (fun z => Zv z k)) (Bs.map (fun z => Zv z k')) (List.zipWith (fun a b => IS (.int .i64 (a - b).sign)) As Bs)))]) Tryd.func37 rfl Tryd.ntmps37 (by simp) (args_cons rfl (h) (args_cons rfl (h') (args_cons rfl (hf) args_nil))) ?_
  intro a0 S0
  refine wp_stmt_seq [.val (Is (.int .i64 0))] [] [.inl 0, .inr 0, .inr 1, .inr 2] follows S0 rfl (by kernel_rfl) ?_ ?_
  · refine ⟨trivial, ?_⟩
    · exact owe_move rfl (wants_all rfl) (Or.inr rfl) (opnd_const _) rfl
  intro B1 a1 W1 S1
  replace S1 : Sta w 39 [] [(6, (Is (.int .i64 0))), (0, (Vv n As k)), (1, (Vv m Bs k')), (2, (Fn2 (As.map (fun z => Zv z k)) (Bs.map (fun z => Zv z k')) (List.zipWith (fun a b => IS (.int .i64 (a - b).sign)) As Bs)))] B1 a1 W1 := S1
  refine wp_seq ?_
  refine wp_stmt_seq [.val (Vv n As k),
      .val (Is (.int .i64 (n : Nat))),
      .val (Is (.int .i64 0))] [] [.inl 0, .inl 1, .inl 2, .inr 0, .inr 1, .inr 2, .inr 3] follows S1 rfl (by kernel_rfl) ?_ ?_
  · refine ⟨⟨⟨trivial, ?_⟩, ?_⟩, ?_⟩
    · exact owe_move rfl (wants_all rfl) (Or.inl rfl) (opnd_slot 1 0 rfl (by kernel_rfl)) rfl
    · exact owe_len rfl (wants_all rfl) rfl (opnd_op 0 11 (by kernel_rfl) rfl) ar_len Tryd.underlying23 rfl
    · exact owe_move rfl (wants_all rfl) (Or.inl rfl) (opnd_const _) rfl
  intro B2 a2 W2 S2
  replace S2 : Sta w 39 [] [(11, (Vv n As k)), (12, (Is (.int .i64 (n : Nat)))), (13, (Is (.int .i64 0))), (6, (Is (.int .i64 0))), (0, (Vv n As k)), (1, (Vv m Bs k')), (2, (Fn2 (As.map (fun z => Zv z k)) (Bs.map (fun z => Zv z k')) (List.zipWith (fun a b => IS (.int .i64 (a - b).sign)) As Bs)))] B2 a2 W2 := S2
  refine wp_block ?_
  refine wp_loop_ghost (fun (k0 : Nat) a W => (k0 ≤ n ∧ k0 ≤ m ∧ ordZ As Bs = ordZ (As.drop k0) (Bs.drop k0)) ∧ ∃ Bq, Sta w 39 [] [(11, (Vv n As k)), (12, (Is (.int .i64 (n : Nat)))), (13, (Is (.int .i64 k0))), (0, (Vv n As k)), (1, (Vv m Bs k')), (2, (Fn2 (As.map (fun z => Zv z k)) (Bs.map (fun z => Zv z k')) (List.zipWith (fun a b => IS (.int .i64 (a - b).sign)) As Bs)))] Bq a W) (fun (k0 : Nat) => n - k0) ?_ 0 ⟨⟨Nat.zero_le _, Nat.zero_le _, rfl⟩, B2, S2.sub [] [0, 1, 2, 4, 5, 6]⟩
  rintro k0 a3 W3 ⟨hcond, B3, S3⟩
  rcases (show (k0 < n ∧ m ≤ k0) ∨ (k0 < n ∧ k0 < m ∧ (As.getD k0 0 - Bs.getD k0 0).sign ≠ 0) ∨ (k0 < n ∧ k0 < m ∧ (As.getD k0 0 - Bs.getD k0 0).sign = 0) ∨ (n ≤ k0 ∧ n < m) ∨ (n ≤ k0 ∧ m ≤ n) from by omega) with ⟨h1, h2⟩ | ⟨h1, h2, h3⟩ | ⟨h1, h2, h3⟩ | ⟨h1, h2⟩ | ⟨h1, h2⟩
  · obtain ⟨a, ha⟩ : ∃ a, As[k0]? = some a := ⟨As[k0]'(by omega), List.getElem?_eq_getElem _⟩
    have he := ord_end hA hB hcond.1 hcond.2.1 (by omega)
    rw [hcond.2.2, he]
    rw [if_neg (by omega), if_pos (by omega)]
    refine wp_stmt_seq [.val (Is (.bool true))] [] [.inl 0, .inr 0, .inr 1, .inr 2, .inr 3, .inr 4, .inr 5] follows S3 rfl (by kernel_rfl) ?_ ?_
    · refine ⟨trivial, ?_⟩
      · exact owe_bin rfl (wants_all rfl) rfl (opnd_slot 2 13 rfl (by kernel_rfl)) (opnd_slot 1 12 rfl (by kernel_rfl)) rfl (fun ρ w h1 h2 => by exact run_lss_int_t ρ _ _ _ w _ _ (by omega) h1 h2)
    intro B4 a4 W4 S4
    replace S4 : Sta w 39 [] [(14, (Is (.bool true))), (11, (Vv n As k)), (12, (Is (.int .i64 (n : Nat)))), (13, (Is (.int .i64 k0))), (0, (Vv n As k)), (1, (Vv m Bs k')), (2, (Fn2 (As.map (fun z => Zv z k)) (Bs.map (fun z => Zv z k')) (List.zipWith (fun a b => IS (.int .i64 (a - b).sign)) As Bs)))] B4 a4 W4 := S4
    refine wp_seq ?_
    refine wp_cond_true (S4.bool 0 14 rfl) ?_
    refine wp_skip ?_
    refine thenN ?_
    refine wp_seq ?_
    refine wp_block ?_
    refine wp_stmt_seq [.val (Is (.int .i64 k0)),
      .val (AtE 2 (Zv a k)),
      .val (Zv a k),
      .new (.box 36 (Is (.agg #[.bool false, .slice none 0 0]))),
      .val (Is (.int .i64 k0)),
      .put (.inr 3) (.box 36 (Zv a k))] [.inl 3] [.inl 4, .inr 0, .inr 1, .inr 2, .inr 3, .inr 4, .inr 5, .inr 6] follows S4 rfl (by kernel_rfl) ?_ ?_
    · refine ⟨⟨⟨⟨⟨⟨trivial, ?_⟩, ?_⟩, ?_⟩, ?_⟩, ?_⟩, ?_⟩
      · exact owe_move rfl (wants_all rfl) (Or.inl rfl) (opnd_slot 3 13 rfl (by kernel_rfl)) rfl
      · exact owe_aindex rfl (wants_all rfl) rfl idx_ints (opnd_slot 1 11 rfl (by kernel_rfl)) (opnd_slot 3 13 rfl (by kernel_rfl)) (map_get' _ ha) rfl
      · exact owe_aload rfl (wants_all rfl) rfl ldr_int (by decide) (cel_shp (by decide) shp_zv) (opnd_op 1 16 (by kernel_rfl) rfl) rfl
      · exact owe_new rfl (wants_all rfl) rfl rfl (fun ρ w => alloc_int ρ _ w)
      · exact owe_move rfl (wants_all rfl) (Or.inr rfl) (opnd_op 0 15 (by kernel_rfl) rfl) rfl
      · exact owe_put 3 rfl (wants_all rfl) rfl (by kernel_rfl) rfl (opnd_op 2 17 (by kernel_rfl) rfl) (stores_of strct_int shp_z0 shp_zv) rfl
    intro B5 a5 W5 S5
    replace S5 : Sta w 39 [(8, (.box 36 (Zv a k)))] [(7, (Is (.int .i64 k0))), (14, (Is (.bool true))), (11, (Vv n As k)), (12, (Is (.int .i64 (n : Nat)))), (13, (Is (.int .i64 k0))), (0, (Vv n As k)), (1, (Vv m Bs k')), (2, (Fn2 (As.map (fun z => Zv z k)) (Bs.map (fun z => Zv z k')) (List.zipWith (fun a b => IS (.int .i64 (a - b).sign)) As Bs)))] B5 a5 W5 := S5
    refine wp_seq ?_
    refine wp_stmt_seq [.val (Is (.int .i64 k0)),
      .val (Vv m Bs k'),
      .val (Is (.int .i64 (m : Nat))),
      .val (Is (.bool true))] [.inr 0] [.inl 3, .inr 0, .inr 1, .inr 2, .inr 3, .inr 4, .inr 5, .inr 6, .inr 7] follows S5 rfl (by kernel_rfl) ?_ ?_
    · refine ⟨⟨⟨⟨trivial, ?_⟩, ?_⟩, ?_⟩, ?_⟩
      · exact owe_move rfl (wants_all rfl) (Or.inl rfl) (opnd_slot 0 7 rfl (by kernel_rfl)) rfl
      · exact owe_move rfl (wants_all rfl) (Or.inl rfl) (opnd_slot 6 1 rfl (by kernel_rfl)) rfl
      · exact owe_len rfl (wants_all rfl) rfl (opnd_op 1 19 (by kernel_rfl) rfl) ar_len Tryd.underlying23 rfl
      · exact owe_bin rfl (wants_all rfl) rfl (opnd_op 0 18 (by kernel_rfl) rfl) (opnd_op 2 20 (by kernel_rfl) rfl) rfl (fun ρ w h1 h2 => by exact run_geq_int_t ρ _ _ _ w _ _ (by omega) h1 h2)
    intro B6 a6 W6 S6
    replace S6 : Sta w 39 [(8, (.box 36 (Zv a k)))] [(21, (Is (.bool true))), (7, (Is (.int .i64 k0))), (14, (Is (.bool true))), (11, (Vv n As k)), (12, (Is (.int .i64 (n : Nat)))), (13, (Is (.int .i64 k0))), (0, (Vv n As k)), (1, (Vv m Bs k')), (2, (Fn2 (As.map (fun z => Zv z k)) (Bs.map (fun z => Zv z k')) (List.zipWith (fun a b => IS (.int .i64 (a - b).sign)) As Bs)))] B6 a6 W6 := S6
    refine wp_cond_true (S6.bool 0 21 rfl) ?_
    refine wp_stmt_seq [.val (Is (.int .i64 1))] [.inr 0] [.inl 0, .inr 0, .inr 1, .inr 2, .inr 3, .inr 4, .inr 5, .inr 6, .inr 7, .inr 8] follows S6 rfl (by kernel_rfl) ?_ ?_
    · refine ⟨trivial, ?_⟩
      · exact owe_move rfl (wants_all rfl) (Or.inr rfl) (opnd_const _) rfl
    intro B7 a7 W7 S7
    replace S7 : Sta w 39 [(8, (.box 36 (Zv a k)))] [(6, (Is (.int .i64 1))), (21, (Is (.bool true))), (7, (Is (.int .i64 k0))), (14, (Is (.bool true))), (11, (Vv n As k)), (12, (Is (.int .i64 (n : Nat)))), (13, (Is (.int .i64 k0))), (0, (Vv n As k)), (1, (Vv m Bs k')), (2, (Fn2 (As.map (fun z => Zv z k)) (Bs.map (fun z => Zv z k')) (List.zipWith (fun a b => IS (.int .i64 (a - b).sign)) As Bs)))] B7 a7 W7 := S7
    refine wp_ret ?_
    refine thenR ?_
    refine inBlkR ?_
    refine thenR ?_
    refine thenR ?_
    refine inBlkR ?_
    refine thenR ?_
    exact end_one S7 rfl (res_tmp S7 0 6 rfl)
  · obtain ⟨a, ha⟩ : ∃ a, As[k0]? = some a := ⟨As[k0]'(by omega), List.getElem?_eq_getElem _⟩
    obtain ⟨b, hb⟩ : ∃ b, Bs[k0]? = some b := ⟨Bs[k0]'(by omega), List.getElem?_eq_getElem _⟩
    rw [List.getD_eq_getElem?_getD, ha, List.getD_eq_getElem?_getD, hb] at h3
    have h3 : (a - b).sign ≠ 0 := h3
    have hg := ord_stop ha hb h3
    rw [hcond.2.2, hg]
    refine wp_stmt_seq [.val (Is (.bool true))] [] [.inl 0, .inr 0, .inr 1, .inr 2, .inr 3, .inr 4, .inr 5] follows S3 rfl (by kernel_rfl) ?_ ?_
    · refine ⟨trivial, ?_⟩
      · exact owe_bin rfl (wants_all rfl) rfl (opnd_slot 2 13 rfl (by kernel_rfl)) (opnd_slot 1 12 rfl (by kernel_rfl)) rfl (fun ρ w h1 h2 => by exact run_lss_int_t ρ _ _ _ w _ _ (by omega) h1 h2)
    intro B4 a4 W4 S4
    replace S4 : Sta w 39 [] [(14, (Is (.bool true))), (11, (Vv n As k)), (12, (Is (.int .i64 (n : Nat)))), (13, (Is (.int .i64 k0))), (0, (Vv n As k)), (1, (Vv m Bs k')), (2, (Fn2 (As.map (fun z => Zv z k)) (Bs.map (fun z => Zv z k')) (List.zipWith (fun a b => IS (.int .i64 (a - b).sign)) As Bs)))] B4 a4 W4 := S4
    refine wp_seq ?_
    refine wp_cond_true (S4.bool 0 14 rfl) ?_
    refine wp_skip ?_
    refine thenN ?_
    refine wp_seq ?_
    refine wp_block ?_
    refine wp_stmt_seq [.val (Is (.int .i64 k0)),
      .val (AtE 2 (Zv a k)),
      .val (Zv a k),
      .new (.box 36 (Is (.agg #[.bool false, .slice none 0 0]))),
      .val (Is (.int .i64 k0)),
      .put (.inr 3) (.box 36 (Zv a k))] [.inl 3] [.inl 4, .inr 0, .inr 1, .inr 2, .inr 3, .inr 4, .inr 5, .inr 6] follows S4 rfl (by kernel_rfl) ?_ ?_
    · refine ⟨⟨⟨⟨⟨⟨trivial, ?_⟩, ?_⟩, ?_⟩, ?_⟩, ?_⟩, ?_⟩
      · exact owe_move rfl (wants_all rfl) (Or.inl rfl) (opnd_slot 3 13 rfl (by kernel_rfl)) rfl
      · exact owe_aindex rfl (wants_all rfl) rfl idx_ints (opnd_slot 1 11 rfl (by kernel_rfl)) (opnd_slot 3 13 rfl (by kernel_rfl)) (map_get' _ ha) rfl
      · exact owe_aload rfl (wants_all rfl) rfl ldr_int (by decide) (cel_shp (by decide) shp_zv) (opnd_op 1 16 (by kernel_rfl) rfl) rfl
      · exact owe_new rfl (wants_all rfl) rfl rfl (fun ρ w => alloc_int ρ _ w)
      · exact owe_move rfl (wants_all rfl) (Or.inr rfl) (opnd_op 0 15 (by kernel_rfl) rfl) rfl
      · exact owe_put 3 rfl (wants_all rfl) rfl (by kernel_rfl) rfl (opnd_op 2 17 (by kernel_rfl) rfl) (stores_of strct_int shp_z0 shp_zv) rfl
    intro B5 a5 W5 S5
    replace S5 : Sta w 39 [(8, (.box 36 (Zv a k)))] [(7, (Is (.int .i64 k0))), (14, (Is (.bool true))), (11, (Vv n As k)), (12, (Is (.int .i64 (n : Nat)))), (13, (Is (.int .i64 k0))), (0, (Vv n As k)), (1, (Vv m Bs k')), (2, (Fn2 (As.map (fun z => Zv z k)) (Bs.map (fun z => Zv z k')) (List.zipWith (fun a b => IS (.int .i64 (a - b).sign)) As Bs)))] B5 a5 W5 := S5
    refine wp_seq ?_
    refine wp_stmt_seq [.val (Is (.int .i64 k0)),
      .val (Vv m Bs k'),
      .val (Is (.int .i64 (m : Nat))),
      .val (Is (.bool false))] [.inr 0] [.inl 3, .inr 0, .inr 1, .inr 2, .inr 3, .inr 4, .inr 5, .inr 6, .inr 7] follows S5 rfl (by kernel_rfl) ?_ ?_
    · refine ⟨⟨⟨⟨trivial, ?_⟩, ?_⟩, ?_⟩, ?_⟩
      · exact owe_move rfl (wants_all rfl) (Or.inl rfl) (opnd_slot 0 7 rfl (by kernel_rfl)) rfl
      · exact owe_move rfl (wants_all rfl) (Or.inl rfl) (opnd_slot 6 1 rfl (by kernel_rfl)) rfl
      · exact owe_len rfl (wants_all rfl) rfl (opnd_op 1 19 (by kernel_rfl) rfl) ar_len Tryd.underlying23 rfl
      · exact owe_bin rfl (wants_all rfl) rfl (opnd_op 0 18 (by kernel_rfl) rfl) (opnd_op 2 20 (by kernel_rfl) rfl) rfl (fun ρ w h1 h2 => by exact run_geq_int_f ρ _ _ _ w _ _ (by omega) h1 h2)
    intro B6 a6 W6 S6
    replace S6 : Sta w 39 [(8, (.box 36 (Zv a k)))] [(21, (Is (.bool false))), (7, (Is (.int .i64 k0))), (14, (Is (.bool true))), (11, (Vv n As k)), (12, (Is (.int .i64 (n : Nat)))), (13, (Is (.int .i64 k0))), (0, (Vv n As k)), (1, (Vv m Bs k')), (2, (Fn2 (As.map (fun z => Zv z k)) (Bs.map (fun z => Zv z k')) (List.zipWith (fun a b => IS (.int .i64 (a - b).sign)) As Bs)))] B6 a6 W6 := S6
    refine wp_cond_false (S6.bool 0 21 rfl) ?_
    refine wp_skip ?_
    refine thenN ?_
    refine wp_stmt_seq [.val (Vv m Bs k'),
      .val (Is (.int .i64 k0)),
      .val (AtE 2 (Zv b k')),
      .val (Zv b k'),
      .new (.box 36 (Is (.agg #[.bool false, .slice none 0 0]))),
      .put (.inr 4) (.box 36 (Zv b k'))] [.inr 0, .inl 4] [.inr 0, .inr 1, .inr 2, .inr 3, .inr 4, .inr 5, .inr 6, .inr 7, .inr 8] follows S6 rfl (by kernel_rfl) ?_ ?_
    · refine ⟨⟨⟨⟨⟨⟨trivial, ?_⟩, ?_⟩, ?_⟩, ?_⟩, ?_⟩, ?_⟩
      · exact owe_move rfl (wants_all rfl) (Or.inl rfl) (opnd_slot 7 1 rfl (by kernel_rfl)) rfl
      · exact owe_move rfl (wants_all rfl) (Or.inl rfl) (opnd_slot 1 7 rfl (by kernel_rfl)) rfl
      · exact owe_aindex rfl (wants_all rfl) rfl idx_ints (opnd_op 0 22 (by kernel_rfl) rfl) (opnd_op 1 23 (by kernel_rfl) rfl) (map_get' _ hb) rfl
      · exact owe_aload rfl (wants_all rfl) rfl ldr_int (by decide) (cel_shp (by decide) shp_zv) (opnd_op 2 24 (by kernel_rfl) rfl) rfl
      · exact owe_new rfl (wants_all rfl) rfl rfl (fun ρ w => alloc_int ρ _ w)
      · exact owe_put 4 rfl (wants_all rfl) rfl (by kernel_rfl) rfl (opnd_op 3 25 (by kernel_rfl) rfl) (stores_of strct_int shp_z0 shp_zv) rfl
    intro B7 a7 W7 S7
    replace S7 : Sta w 39 [(8, (.box 36 (Zv a k))), (9, (.box 36 (Zv b k')))] [(21, (Is (.bool false))), (7, (Is (.int .i64 k0))), (14, (Is (.bool true))), (11, (Vv n As k)), (12, (Is (.int .i64 (n : Nat)))), (13, (Is (.int .i64 k0))), (0, (Vv n As k)), (1, (Vv m Bs k')), (2, (Fn2 (As.map (fun z => Zv z k)) (Bs.map (fun z => Zv z k')) (List.zipWith (fun a b => IS (.int .i64 (a - b).sign)) As Bs)))] B7 a7 W7 := S7
    refine wp_stmt_seq [.val (Fn2 (As.map (fun z => Zv z k)) (Bs.map (fun z => Zv z k')) (List.zipWith (fun a b => IS (.int .i64 (a - b).sign)) As Bs)),
      .val (Zv a k),
      .val (Zv b k'),
      .val (Is (.int .i64 (a - b).sign)),
      .val (Is (.int .i64 (a - b).sign))] [.inr 0, .inr 1] [.inl 4, .inr 0, .inr 1, .inr 2, .inr 3, .inr 4, .inr 5, .inr 6, .inr 7, .inr 8] follows S7 rfl (by kernel_rfl) ?_ ?_
    · refine ⟨⟨⟨⟨⟨trivial, ?_⟩, ?_⟩, ?_⟩, ?_⟩, ?_⟩
      · exact owe_move rfl (wants_all rfl) (Or.inl rfl) (opnd_slot 8 2 rfl (by kernel_rfl)) rfl
      · exact owe_load rfl (wants_all rfl) rfl (k := 0) rfl (by kernel_rfl) (loads_of strct_int shp_zv) rfl
      · exact owe_load rfl (wants_all rfl) rfl (k := 1) rfl (by kernel_rfl) (loads_of strct_int shp_zv) rfl
      · exact owe_callv2 k0 rfl (wants_all rfl) rfl (opnd_op 0 26 (by kernel_rfl) rfl) (map_get' _ ha) (map_get' _ hb) (zip_get' _ ha hb) (opnd_op 1 27 (by kernel_rfl) rfl) (opnd_op 2 28 (by kernel_rfl) rfl) (fresh_is _) rfl
      · exact owe_move rfl (wants_all rfl) (Or.inr rfl) (opnd_op 3 29 (by kernel_rfl) rfl) rfl
    intro B8 a8 W8 S8
    replace S8 : Sta w 39 [(8, (.box 36 (Zv a k))), (9, (.box 36 (Zv b k')))] [(10, (Is (.int .i64 (a - b).sign))), (21, (Is (.bool false))), (7, (Is (.int .i64 k0))), (14, (Is (.bool true))), (11, (Vv n As k)), (12, (Is (.int .i64 (n : Nat)))), (13, (Is (.int .i64 k0))), (0, (Vv n As k)), (1, (Vv m Bs k')), (2, (Fn2 (As.map (fun z => Zv z k)) (Bs.map (fun z => Zv z k')) (List.zipWith (fun a b => IS (.int .i64 (a - b).sign)) As Bs)))] B8 a8 W8 := S8
    refine wp_stmt_seq [.val (Is (.int .i64 (a - b).sign)),
      .val (Is (.bool true))] [.inr 0, .inr 1] [.inl 1, .inr 0, .inr 1, .inr 2, .inr 3, .inr 4, .inr 5, .inr 6, .inr 7, .inr 8, .inr 9] follows S8 rfl (by kernel_rfl) ?_ ?_
    · refine ⟨⟨trivial, ?_⟩, ?_⟩
      · exact owe_move rfl (wants_all rfl) (Or.inl rfl) (opnd_slot 0 10 rfl (by kernel_rfl)) rfl
      · exact owe_bin rfl (wants_all rfl) rfl (opnd_op 0 30 (by kernel_rfl) rfl) (opnd_const _) rfl (fun ρ w h1 h2 => by exact run_neq_int_t ρ _ _ _ w _ _ h3 h1 h2)
    intro B9 a9 W9 S9
    replace S9 : Sta w 39 [(8, (.box 36 (Zv a k))), (9, (.box 36 (Zv b k')))] [(31, (Is (.bool true))), (10, (Is (.int .i64 (a - b).sign))), (21, (Is (.bool false))), (7, (Is (.int .i64 k0))), (14, (Is (.bool true))), (11, (Vv n As k)), (12, (Is (.int .i64 (n : Nat)))), (13, (Is (.int .i64 k0))), (0, (Vv n As k)), (1, (Vv m Bs k')), (2, (Fn2 (As.map (fun z => Zv z k)) (Bs.map (fun z => Zv z k')) (List.zipWith (fun a b => IS (.int .i64 (a - b).sign)) As Bs)))] B9 a9 W9 := S9
    refine wp_cond_true (S9.bool 0 31 rfl) ?_
    refine wp_stmt_seq [.val (Is (.int .i64 (a - b).sign)),
      .val (Is (.int .i64 (a - b).sign))] [.inr 0, .inr 1] [.inl 1, .inr 0, .inr 1, .inr 2, .inr 3, .inr 4, .inr 5, .inr 6, .inr 7, .inr 8, .inr 9, .inr 10] follows S9 rfl (by kernel_rfl) ?_ ?_
    · refine ⟨⟨trivial, ?_⟩, ?_⟩
      · exact owe_move rfl (wants_all rfl) (Or.inl rfl) (opnd_slot 1 10 rfl (by kernel_rfl)) rfl
      · exact owe_move rfl (wants_all rfl) (Or.inr rfl) (opnd_op 0 32 (by kernel_rfl) rfl) rfl
    intro B10 a10 W10 S10
    replace S10 : Sta w 39 [(8, (.box 36 (Zv a k))), (9, (.box 36 (Zv b k')))] [(6, (Is (.int .i64 (a - b).sign))), (31, (Is (.bool true))), (10, (Is (.int .i64 (a - b).sign))), (21, (Is (.bool false))), (7, (Is (.int .i64 k0))), (14, (Is (.bool true))), (11, (Vv n As k)), (12, (Is (.int .i64 (n : Nat)))), (13, (Is (.int .i64 k0))), (0, (Vv n As k)), (1, (Vv m Bs k')), (2, (Fn2 (As.map (fun z => Zv z k)) (Bs.map (fun z => Zv z k')) (List.zipWith (fun a b => IS (.int .i64 (a - b).sign)) As Bs)))] B10 a10 W10 := S10
    refine wp_ret ?_
    refine inBlkR ?_
    refine thenR ?_
    refine thenR ?_
    refine inBlkR ?_
    refine thenR ?_
    exact end_one S10 rfl (res_tmp S10 0 6 rfl)
  · obtain ⟨a, ha⟩ : ∃ a, As[k0]? = some a := ⟨As[k0]'(by omega), List.getElem?_eq_getElem _⟩
    obtain ⟨b, hb⟩ : ∃ b, Bs[k0]? = some b := ⟨Bs[k0]'(by omega), List.getElem?_eq_getElem _⟩
    rw [List.getD_eq_getElem?_getD, ha, List.getD_eq_getElem?_getD, hb] at h3
    have h3 : (a - b).sign = 0 := h3
    have hg := ord_go ha hb h3
    refine wp_stmt_seq [.val (Is (.bool true))] [] [.inl 0, .inr 0, .inr 1, .inr 2, .inr 3, .inr 4, .inr 5] follows S3 rfl (by kernel_rfl) ?_ ?_
    · refine ⟨trivial, ?_⟩
      · exact owe_bin rfl (wants_all rfl) rfl (opnd_slot 2 13 rfl (by kernel_rfl)) (opnd_slot 1 12 rfl (by kernel_rfl)) rfl (fun ρ w h1 h2 => by exact run_lss_int_t ρ _ _ _ w _ _ (by omega) h1 h2)
    intro B4 a4 W4 S4
    replace S4 : Sta w 39 [] [(14, (Is (.bool true))), (11, (Vv n As k)), (12, (Is (.int .i64 (n : Nat)))), (13, (Is (.int .i64 k0))), (0, (Vv n As k)), (1, (Vv m Bs k')), (2, (Fn2 (As.map (fun z => Zv z k)) (Bs.map (fun z => Zv z k')) (List.zipWith (fun a b => IS (.int .i64 (a - b).sign)) As Bs)))] B4 a4 W4 := S4
    refine wp_seq ?_
    refine wp_cond_true (S4.bool 0 14 rfl) ?_
    refine wp_skip ?_
    refine thenN ?_
    refine wp_seq ?_
    refine wp_block ?_
    refine wp_stmt_seq [.val (Is (.int .i64 k0)),
      .val (AtE 2 (Zv a k)),
      .val (Zv a k),
      .new (.box 36 (Is (.agg #[.bool false, .slice none 0 0]))),
      .val (Is (.int .i64 k0)),
      .put (.inr 3) (.box 36 (Zv a k))] [.inl 3] [.inl 4, .inr 0, .inr 1, .inr 2, .inr 3, .inr 4, .inr 5, .inr 6] follows S4 rfl (by kernel_rfl) ?_ ?_
    · refine ⟨⟨⟨⟨⟨⟨trivial, ?_⟩, ?_⟩, ?_⟩, ?_⟩, ?_⟩, ?_⟩
      · exact owe_move rfl (wants_all rfl) (Or.inl rfl) (opnd_slot 3 13 rfl (by kernel_rfl)) rfl
      · exact owe_aindex rfl (wants_all rfl) rfl idx_ints (opnd_slot 1 11 rfl (by kernel_rfl)) (opnd_slot 3 13 rfl (by kernel_rfl)) (map_get' _ ha) rfl
      · exact owe_aload rfl (wants_all rfl) rfl ldr_int (by decide) (cel_shp (by decide) shp_zv) (opnd_op 1 16 (by kernel_rfl) rfl) rfl
      · exact owe_new rfl (wants_all rfl) rfl rfl (fun ρ w => alloc_int ρ _ w)
      · exact owe_move rfl (wants_all rfl) (Or.inr rfl) (opnd_op 0 15 (by kernel_rfl) rfl) rfl
      · exact owe_put 3 rfl (wants_all rfl) rfl (by kernel_rfl) rfl (opnd_op 2 17 (by kernel_rfl) rfl) (stores_of strct_int shp_z0 shp_zv) rfl
    intro B5 a5 W5 S5
    replace S5 : Sta w 39 [(8, (.box 36 (Zv a k)))] [(7, (Is (.int .i64 k0))), (14, (Is (.bool true))), (11, (Vv n As k)), (12, (Is (.int .i64 (n : Nat)))), (13, (Is (.int .i64 k0))), (0, (Vv n As k)), (1, (Vv m Bs k')), (2, (Fn2 (As.map (fun z => Zv z k)) (Bs.map (fun z => Zv z k')) (List.zipWith (fun a b => IS (.int .i64 (a - b).sign)) As Bs)))] B5 a5 W5 := S5
    refine wp_seq ?_
    refine wp_stmt_seq [.val (Is (.int .i64 k0)),
      .val (Vv m Bs k'),
      .val (Is (.int .i64 (m : Nat))),
      .val (Is (.bool false))] [.inr 0] [.inl 3, .inr 0, .inr 1, .inr 2, .inr 3, .inr 4, .inr 5, .inr 6, .inr 7] follows S5 rfl (by kernel_rfl) ?_ ?_
    · refine ⟨⟨⟨⟨trivial, ?_⟩, ?_⟩, ?_⟩, ?_⟩
      · exact owe_move rfl (wants_all rfl) (Or.inl rfl) (opnd_slot 0 7 rfl (by kernel_rfl)) rfl
      · exact owe_move rfl (wants_all rfl) (Or.inl rfl) (opnd_slot 6 1 rfl (by kernel_rfl)) rfl
      · exact owe_len rfl (wants_all rfl) rfl (opnd_op 1 19 (by kernel_rfl) rfl) ar_len Tryd.underlying23 rfl
      · exact owe_bin rfl (wants_all rfl) rfl (opnd_op 0 18 (by kernel_rfl) rfl) (opnd_op 2 20 (by kernel_rfl) rfl) rfl (fun ρ w h1 h2 => by exact run_geq_int_f ρ _ _ _ w _ _ (by omega) h1 h2)
    intro B6 a6 W6 S6
    replace S6 : Sta w 39 [(8, (.box 36 (Zv a k)))] [(21, (Is (.bool false))), (7, (Is (.int .i64 k0))), (14, (Is (.bool true))), (11, (Vv n As k)), (12, (Is (.int .i64 (n : Nat)))), (13, (Is (.int .i64 k0))), (0, (Vv n As k)), (1, (Vv m Bs k')), (2, (Fn2 (As.map (fun z => Zv z k)) (Bs.map (fun z => Zv z k')) (List.zipWith (fun a b => IS (.int .i64 (a - b).sign)) As Bs)))] B6 a6 W6 := S6
    refine wp_cond_false (S6.bool 0 21 rfl) ?_
    refine wp_skip ?_
    refine thenN ?_
    refine wp_stmt_seq [.val (Vv m Bs k'),
      .val (Is (.int .i64 k0)),
      .val (AtE 2 (Zv b k')),
      .val (Zv b k'),
      .new (.box 36 (Is (.agg #[.bool false, .slice none 0 0]))),
      .put (.inr 4) (.box 36 (Zv b k'))] [.inr 0, .inl 4] [.inr 0, .inr 1, .inr 2, .inr 3, .inr 4, .inr 5, .inr 6, .inr 7, .inr 8] follows S6 rfl (by kernel_rfl) ?_ ?_
    · refine ⟨⟨⟨⟨⟨⟨trivial, ?_⟩, ?_⟩, ?_⟩, ?_⟩, ?_⟩, ?_⟩
      · exact owe_move rfl (wants_all rfl) (Or.inl rfl) (opnd_slot 7 1 rfl (by kernel_rfl)) rfl
      · exact owe_move rfl (wants_all rfl) (Or.inl rfl) (opnd_slot 1 7 rfl (by kernel_rfl)) rfl
      · exact owe_aindex rfl (wants_all rfl) rfl idx_ints (opnd_op 0 22 (by kernel_rfl) rfl) (opnd_op 1 23 (by kernel_rfl) rfl) (map_get' _ hb) rfl
      · exact owe_aload rfl (wants_all rfl) rfl ldr_int (by decide) (cel_shp (by decide) shp_zv) (opnd_op 2 24 (by kernel_rfl) rfl) rfl
      · exact owe_new rfl (wants_all rfl) rfl rfl (fun ρ w => alloc_int ρ _ w)
      · exact owe_put 4 rfl (wants_all rfl) rfl (by kernel_rfl) rfl (opnd_op 3 25 (by kernel_rfl) rfl) (stores_of strct_int shp_z0 shp_zv) rfl
    intro B7 a7 W7 S7
    replace S7 : Sta w 39 [(8, (.box 36 (Zv a k))), (9, (.box 36 (Zv b k')))] [(21, (Is (.bool false))), (7, (Is (.int .i64 k0))), (14, (Is (.bool true))), (11, (Vv n As k)), (12, (Is (.int .i64 (n : Nat)))), (13, (Is (.int .i64 k0))), (0, (Vv n As k)), (1, (Vv m Bs k')), (2, (Fn2 (As.map (fun z => Zv z k)) (Bs.map (fun z => Zv z k')) (List.zipWith (fun a b => IS (.int .i64 (a - b).sign)) As Bs)))] B7 a7 W7 := S7
    refine wp_stmt_seq [.val (Fn2 (As.map (fun z => Zv z k)) (Bs.map (fun z => Zv z k')) (List.zipWith (fun a b => IS (.int .i64 (a - b).sign)) As Bs)),
      .val (Zv a k),
      .val (Zv b k'),
      .val (Is (.int .i64 (a - b).sign)),
      .val (Is (.int .i64 (a - b).sign))] [.inr 0, .inr 1] [.inl 4, .inr 0, .inr 1, .inr 2, .inr 3, .inr 4, .inr 5, .inr 6, .inr 7, .inr 8] follows S7 rfl (by kernel_rfl) ?_ ?_
    · refine ⟨⟨⟨⟨⟨trivial, ?_⟩, ?_⟩, ?_⟩, ?_⟩, ?_⟩
      · exact owe_move rfl (wants_all rfl) (Or.inl rfl) (opnd_slot 8 2 rfl (by kernel_rfl)) rfl
      · exact owe_load rfl (wants_all rfl) rfl (k := 0) rfl (by kernel_rfl) (loads_of strct_int shp_zv) rfl
      · exact owe_load rfl (wants_all rfl) rfl (k := 1) rfl (by kernel_rfl) (loads_of strct_int shp_zv) rfl
      · exact owe_callv2 k0 rfl (wants_all rfl) rfl (opnd_op 0 26 (by kernel_rfl) rfl) (map_get' _ ha) (map_get' _ hb) (zip_get' _ ha hb) (opnd_op 1 27 (by kernel_rfl) rfl) (opnd_op 2 28 (by kernel_rfl) rfl) (fresh_is _) rfl
      · exact owe_move rfl (wants_all rfl) (Or.inr rfl) (opnd_op 3 29 (by kernel_rfl) rfl) rfl
    intro B8 a8 W8 S8
    replace S8 : Sta w 39 [(8, (.box 36 (Zv a k))), (9, (.box 36 (Zv b k')))] [(10, (Is (.int .i64 (a - b).sign))), (21, (Is (.bool false))), (7, (Is (.int .i64 k0))), (14, (Is (.bool true))), (11, (Vv n As k)), (12, (Is (.int .i64 (n : Nat)))), (13, (Is (.int .i64 k0))), (0, (Vv n As k)), (1, (Vv m Bs k')), (2, (Fn2 (As.map (fun z => Zv z k)) (Bs.map (fun z => Zv z k')) (List.zipWith (fun a b => IS (.int .i64 (a - b).sign)) As Bs)))] B8 a8 W8 := S8
    refine wp_stmt_seq [.val (Is (.int .i64 (a - b).sign)),
      .val (Is (.bool false))] [.inr 0, .inr 1] [.inl 1, .inr 0, .inr 1, .inr 2, .inr 3, .inr 4, .inr 5, .inr 6, .inr 7, .inr 8, .inr 9] follows S8 rfl (by kernel_rfl) ?_ ?_
    · refine ⟨⟨trivial, ?_⟩, ?_⟩
      · exact owe_move rfl (wants_all rfl) (Or.inl rfl) (opnd_slot 0 10 rfl (by kernel_rfl)) rfl
      · exact owe_bin rfl (wants_all rfl) rfl (opnd_op 0 30 (by kernel_rfl) rfl) (opnd_const _) rfl (fun ρ w h1 h2 => by exact run_neq_int_f ρ _ _ _ w _ _ h3 h1 h2)
    intro B9 a9 W9 S9
    replace S9 : Sta w 39 [(8, (.box 36 (Zv a k))), (9, (.box 36 (Zv b k')))] [(31, (Is (.bool false))), (10, (Is (.int .i64 (a - b).sign))), (21, (Is (.bool false))), (7, (Is (.int .i64 k0))), (14, (Is (.bool true))), (11, (Vv n As k)), (12, (Is (.int .i64 (n : Nat)))), (13, (Is (.int .i64 k0))), (0, (Vv n As k)), (1, (Vv m Bs k')), (2, (Fn2 (As.map (fun z => Zv z k)) (Bs.map (fun z => Zv z k')) (List.zipWith (fun a b => IS (.int .i64 (a - b).sign)) As Bs)))] B9 a9 W9 := S9
    refine wp_cond_false (S9.bool 0 31 rfl) ?_
    refine wp_skip ?_
    refine inBlkN ?_
    refine thenN ?_
    refine wp_stmt [.val (Is (.int .i64 (k0 + 1 : Nat))),
      .val (Is (.int .i64 (k0 + 1 : Nat)))] [.inr 0, .inr 1] [.inl 1, .inr 0, .inr 1, .inr 2, .inr 3, .inr 4, .inr 5, .inr 6, .inr 8, .inr 9, .inr 10] follows S9 rfl (by kernel_rfl) ?_ ?_
    · refine ⟨⟨trivial, ?_⟩, ?_⟩
      · exact owe_bin rfl (wants_all rfl) rfl (opnd_slot 7 13 rfl (by kernel_rfl)) (opnd_const _) rfl (fun ρ w h1 h2 => by exact run_add_int ρ _ _ _ w _ _ _ ⟨by omega, by omega, by omega⟩ h1 h2)
      · exact owe_move rfl (wants_all rfl) (Or.inl rfl) (opnd_op 0 33 (by kernel_rfl) rfl) rfl
    intro B10 a10 W10 S10
    replace S10 : Sta w 39 [(8, (.box 36 (Zv a k))), (9, (.box 36 (Zv b k')))] [(13, (Is (.int .i64 (k0 + 1 : Nat)))), (31, (Is (.bool false))), (10, (Is (.int .i64 (a - b).sign))), (21, (Is (.bool false))), (7, (Is (.int .i64 k0))), (14, (Is (.bool true))), (11, (Vv n As k)), (12, (Is (.int .i64 (n : Nat)))), (0, (Vv n As k)), (1, (Vv m Bs k')), (2, (Fn2 (As.map (fun z => Zv z k)) (Bs.map (fun z => Zv z k')) (List.zipWith (fun a b => IS (.int .i64 (a - b).sign)) As Bs)))] B10 a10 W10 := S10
    refine thenN ?_
    exact ⟨k0 + 1, ⟨⟨by omega, by omega, hcond.2.2.trans hg⟩, B10, S10.sub [] [6, 7, 0, 8, 9, 10]⟩, by omega⟩
  · have he := ord_end hA hB hcond.1 hcond.2.1 (by omega)
    rw [hcond.2.2, he]
    rw [if_pos (by omega)]
    refine wp_stmt_seq [.val (Is (.bool false))] [] [.inl 0, .inr 0, .inr 1, .inr 2, .inr 3, .inr 4, .inr 5] follows S3 rfl (by kernel_rfl) ?_ ?_
    · refine ⟨trivial, ?_⟩
      · exact owe_bin rfl (wants_all rfl) rfl (opnd_slot 2 13 rfl (by kernel_rfl)) (opnd_slot 1 12 rfl (by kernel_rfl)) rfl (fun ρ w h1 h2 => by exact run_lss_int_f ρ _ _ _ w _ _ (by omega) h1 h2)
    intro B4 a4 W4 S4
    replace S4 : Sta w 39 [] [(14, (Is (.bool false))), (11, (Vv n As k)), (12, (Is (.int .i64 (n : Nat)))), (13, (Is (.int .i64 k0))), (0, (Vv n As k)), (1, (Vv m Bs k')), (2, (Fn2 (As.map (fun z => Zv z k)) (Bs.map (fun z => Zv z k')) (List.zipWith (fun a b => IS (.int .i64 (a - b).sign)) As Bs)))] B4 a4 W4 := S4
    refine wp_seq ?_
    refine wp_cond_false (S4.bool 0 14 rfl) ?_
    refine wp_exit ?_
    refine thenX ?_
    refine thenX ?_
    refine inBlkE ?_
    refine thenN ?_
    refine wp_seq ?_
    refine wp_stmt_seq [.val (Vv n As k),
      .val (Is (.int .i64 (n : Nat))),
      .val (Vv m Bs k'),
      .val (Is (.int .i64 (m : Nat))),
      .val (Is (.bool true))] [] [.inl 4, .inr 0, .inr 1, .inr 2, .inr 3, .inr 4, .inr 5, .inr 6] follows S4 rfl (by kernel_rfl) ?_ ?_
    · refine ⟨⟨⟨⟨⟨trivial, ?_⟩, ?_⟩, ?_⟩, ?_⟩, ?_⟩
      · exact owe_move rfl (wants_all rfl) (Or.inl rfl) (opnd_slot 4 0 rfl (by kernel_rfl)) rfl
      · exact owe_len rfl (wants_all rfl) rfl (opnd_op 0 34 (by kernel_rfl) rfl) ar_len Tryd.underlying23 rfl
      · exact owe_move rfl (wants_all rfl) (Or.inl rfl) (opnd_slot 5 1 rfl (by kernel_rfl)) rfl
      · exact owe_len rfl (wants_all rfl) rfl (opnd_op 2 36 (by kernel_rfl) rfl) ar_len Tryd.underlying23 rfl
      · exact owe_bin rfl (wants_all rfl) rfl (opnd_op 1 35 (by kernel_rfl) rfl) (opnd_op 3 37 (by kernel_rfl) rfl) rfl (fun ρ w h1 h2 => by exact run_lss_int_t ρ _ _ _ w _ _ (by omega) h1 h2)
    intro B5 a5 W5 S5
    replace S5 : Sta w 39 [] [(38, (Is (.bool true))), (14, (Is (.bool false))), (11, (Vv n As k)), (12, (Is (.int .i64 (n : Nat)))), (13, (Is (.int .i64 k0))), (0, (Vv n As k)), (1, (Vv m Bs k')), (2, (Fn2 (As.map (fun z => Zv z k)) (Bs.map (fun z => Zv z k')) (List.zipWith (fun a b => IS (.int .i64 (a - b).sign)) As Bs)))] B5 a5 W5 := S5
    refine wp_cond_true (S5.bool 0 38 rfl) ?_
    refine wp_stmt_seq [.val (Is (.int .i64 (-1)))] [] [.inl 0, .inr 0, .inr 1, .inr 2, .inr 3, .inr 4, .inr 5, .inr 6, .inr 7] follows S5 rfl (by kernel_rfl) ?_ ?_
    · refine ⟨trivial, ?_⟩
      · exact owe_move rfl (wants_all rfl) (Or.inr rfl) (opnd_const _) rfl
    intro B6 a6 W6 S6
    replace S6 : Sta w 39 [] [(6, (Is (.int .i64 (-1)))), (38, (Is (.bool true))), (14, (Is (.bool false))), (11, (Vv n As k)), (12, (Is (.int .i64 (n : Nat)))), (13, (Is (.int .i64 k0))), (0, (Vv n As k)), (1, (Vv m Bs k')), (2, (Fn2 (As.map (fun z => Zv z k)) (Bs.map (fun z => Zv z k')) (List.zipWith (fun a b => IS (.int .i64 (a - b).sign)) As Bs)))] B6 a6 W6 := S6
    refine wp_ret ?_
    refine thenR ?_
    exact end_one S6 rfl (res_tmp S6 0 6 rfl)
  · have he := ord_end hA hB hcond.1 hcond.2.1 (by omega)
    rw [hcond.2.2, he]
    rw [if_neg (by omega), if_neg (by omega)]
    refine wp_stmt_seq [.val (Is (.bool false))] [] [.inl 0, .inr 0, .inr 1, .inr 2, .inr 3, .inr 4, .inr 5] follows S3 rfl (by kernel_rfl) ?_ ?_
    · refine ⟨trivial, ?_⟩
      · exact owe_bin rfl (wants_all rfl) rfl (opnd_slot 2 13 rfl (by kernel_rfl)) (opnd_slot 1 12 rfl (by kernel_rfl)) rfl (fun ρ w h1 h2 => by exact run_lss_int_f ρ _ _ _ w _ _ (by omega) h1 h2)
    intro B4 a4 W4 S4
    replace S4 : Sta w 39 [] [(14, (Is (.bool false))), (11, (Vv n As k)), (12, (Is (.int .i64 (n : Nat)))), (13, (Is (.int .i64 k0))), (0, (Vv n As k)), (1, (Vv m Bs k')), (2, (Fn2 (As.map (fun z => Zv z k)) (Bs.map (fun z => Zv z k')) (List.zipWith (fun a b => IS (.int .i64 (a - b).sign)) As Bs)))] B4 a4 W4 := S4
    refine wp_seq ?_
    refine wp_cond_false (S4.bool 0 14 rfl) ?_
    refine wp_exit ?_
    refine thenX ?_
    refine thenX ?_
    refine inBlkE ?_
    refine thenN ?_
    refine wp_seq ?_
    refine wp_stmt_seq [.val (Vv n As k),
      .val (Is (.int .i64 (n : Nat))),
      .val (Vv m Bs k'),
      .val (Is (.int .i64 (m : Nat))),
      .val (Is (.bool false))] [] [.inl 4, .inr 0, .inr 1, .inr 2, .inr 3, .inr 4, .inr 5, .inr 6] follows S4 rfl (by kernel_rfl) ?_ ?_
    · refine ⟨⟨⟨⟨⟨trivial, ?_⟩, ?_⟩, ?_⟩, ?_⟩, ?_⟩
      · exact owe_move rfl (wants_all rfl) (Or.inl rfl) (opnd_slot 4 0 rfl (by kernel_rfl)) rfl
      · exact owe_len rfl (wants_all rfl) rfl (opnd_op 0 34 (by kernel_rfl) rfl) ar_len Tryd.underlying23 rfl
      · exact owe_move rfl (wants_all rfl) (Or.inl rfl) (opnd_slot 5 1 rfl (by kernel_rfl)) rfl
      · exact owe_len rfl (wants_all rfl) rfl (opnd_op 2 36 (by kernel_rfl) rfl) ar_len Tryd.underlying23 rfl
      · exact owe_bin rfl (wants_all rfl) rfl (opnd_op 1 35 (by kernel_rfl) rfl) (opnd_op 3 37 (by kernel_rfl) rfl) rfl (fun ρ w h1 h2 => by exact run_lss_int_f ρ _ _ _ w _ _ (by omega) h1 h2)
    intro B5 a5 W5 S5
    replace S5 : Sta w 39 [] [(38, (Is (.bool false))), (14, (Is (.bool false))), (11, (Vv n As k)), (12, (Is (.int .i64 (n : Nat)))), (13, (Is (.int .i64 k0))), (0, (Vv n As k)), (1, (Vv m Bs k')), (2, (Fn2 (As.map (fun z => Zv z k)) (Bs.map (fun z => Zv z k')) (List.zipWith (fun a b => IS (.int .i64 (a - b).sign)) As Bs)))] B5 a5 W5 := S5
    refine wp_cond_false (S5.bool 0 38 rfl) ?_
    refine wp_skip ?_
    refine thenN ?_
    refine wp_stmt_seq [.val (Is (.int .i64 0))] [] [.inl 0, .inr 0, .inr 1, .inr 2, .inr 3, .inr 4, .inr 5, .inr 6, .inr 7] follows S5 rfl (by kernel_rfl) ?_ ?_
    · refine ⟨trivial, ?_⟩
      · exact owe_move rfl (wants_all rfl) (Or.inr rfl) (opnd_const _) rfl
    intro B6 a6 W6 S6
    replace S6 : Sta w 39 [] [(6, (Is (.int .i64 0))), (38, (Is (.bool false))), (14, (Is (.bool false))), (11, (Vv n As k)), (12, (Is (.int .i64 (n : Nat)))), (13, (Is (.int .i64 k0))), (0, (Vv n As k)), (1, (Vv m Bs k')), (2, (Fn2 (As.map (fun z => Zv z k)) (Bs.map (fun z => Zv z k')) (List.zipWith (fun a b => IS (.int .i64 (a - b).sign)) As Bs)))] B6 a6 W6 := S6
    refine wp_ret ?_
    exact end_one S6 rfl (res_tmp S6 0 6 rfl)

set_option maxHeartbeats 400000 in
theorem order_w (w : World) (u v : Value) (n m k k' : Nat) (As Bs : List Int) (h : Hs w (Vv n As k) u) (h' : Hs w (Vv m Bs k') v) (hn : n ≤ 1048576) (hm : m ≤ 1048576) (hs : k ≤ 1073741824) (hs' : k' ≤ 1073741824) :
    Calls Tryd.prog 17 #[u, v] w (Gives (IS (.int .i64 (ordZ As Bs))) w) := by
  refine calls_sta (sl := [(0, (Vv n As k)), (1, (Vv m Bs k'))]) Tryd.func17 rfl Tryd.ntmps17 (by simp) (args_cons rfl (h) (args_cons rfl (h') args_nil)) ?_
  intro a0 S0
  refine wp_stmt_seq [.val (Is (.int .i64 0))] [] [.inl 0, .inr 0, .inr 1] follows S0 rfl (by kernel_rfl) ?_ ?_
  · refine ⟨trivial, ?_⟩
    · exact owe_move rfl (wants_all rfl) (Or.inr rfl) (opnd_const _) rfl
  intro B1 a1 W1 S1
  replace S1 : Sta w 8 [] [(4, (Is (.int .i64 0))), (0, (Vv n As k)), (1, (Vv m Bs k'))] B1 a1 W1 := S1
  refine wp_stmt_seq [.val (Vv n As k),
      .val (Vv m Bs k'),
      .val (Is (.int .i64 (ordZ As Bs))),
      .val (Is (.int .i64 (ordZ As Bs)))] [] [.inl 3] follows S1 rfl (by kernel_rfl) ?_ ?_
  · refine ⟨⟨⟨⟨trivial, ?_⟩, ?_⟩, ?_⟩, ?_⟩
    · exact owe_move rfl (wants_all rfl) (Or.inl rfl) (opnd_slot 1 0 rfl (by kernel_rfl)) rfl
    · exact owe_move rfl (wants_all rfl) (Or.inl rfl) (opnd_slot 2 1 rfl (by kernel_rfl)) rfl
    · exact owe_callh3 rfl (wants_all rfl) rfl (opnd_op 0 5 (by kernel_rfl) rfl) (opnd_op 1 6 (by kernel_rfl) rfl) ((opnd_func _).imp (fn2_zip (G := fun a b => IS (.int .i64 (a - b).sign)) (fun args w => by go_simp) (fun a b => h_zcmp (by omega) (by omega)))) (fresh_is _) rfl (fun args w => by go_simp) (fun w u v f h h' hf => cmpf_w w u v f n m k k' As Bs h h' hn hm hs hs' hf)
    · exact owe_move rfl (wants_all rfl) (Or.inr rfl) (opnd_op 2 7 (by kernel_rfl) rfl) rfl
  intro B2 a2 W2 S2
  replace S2 : Sta w 8 [] [(4, (Is (.int .i64 (ordZ As Bs))))] B2 a2 W2 := S2
  refine wp_ret ?_
  exact end_one S2 rfl (res_tmp S2 0 4 rfl)

set_option maxHeartbeats 400000 in
theorem lead1_y (w : World) (u : Value) (k : Nat) (a : Int) (h : Hs w (Zv a k) u) (hs : k ≤ 1073741824) (h4 : a.sign ≠ 0) :
    Calls Tryd.prog 44 #[u] w (Gives (IS (.bool true)) w) := by
  refine calls_sta (sl := [(0, (Zv a k))]) Tryd.func44 rfl Tryd.ntmps44 (by simp) (args_cons rfl (h) args_nil) ?_
  intro a0 S0
  refine wp_stmt_seq [.new (.box 36 (Zv a k)),
      .val (Is (.bool false))] [.inl 0] [.inl 1] follows S0 rfl (by kernel_rfl) ?_ ?_
  · refine ⟨⟨trivial, ?_⟩, ?_⟩
    · exact owe_box rfl (wants_all rfl) rfl (opnd_slot 0 0 rfl (by kernel_rfl)) rfl (fun ρ w h => box_int shp_zv ρ _ _ w h)
    · exact owe_move rfl (wants_all rfl) (Or.inr rfl) (opnd_const _) rfl
  intro B1 a1 W1 S1
  replace S1 : Sta w 6 [(1, (.box 36 (Zv a k)))] [(2, (Is (.bool false)))] B1 a1 W1 := S1
  refine wp_stmt_seq [.val (Zv a k),
      .val (Is (.int .i64 a.sign)),
      .val (Is (.bool true)),
      .val (Is (.bool true))] [.inr 0] [.inl 3] follows S1 rfl (by kernel_rfl) ?_ ?_
  · refine ⟨⟨⟨⟨trivial, ?_⟩, ?_⟩, ?_⟩, ?_⟩
    · exact owe_load rfl (wants_all rfl) rfl (k := 0) rfl (by kernel_rfl) (loads_of strct_int shp_zv) rfl
    · exact owe_call1 rfl (wants_all rfl) rfl (opnd_op 0 3 (by kernel_rfl) rfl) (fresh_is _) rfl (fun args w => by go_simp) (h_zsign (by omega))
    · exact owe_bin rfl (wants_all rfl) rfl (opnd_op 1 4 (by kernel_rfl) rfl) (opnd_const _) rfl (fun ρ w h1 h2 => by exact run_neq_int_t ρ _ _ _ w _ _ h4 h1 h2)
    · exact owe_move rfl (wants_all rfl) (Or.inr rfl) (opnd_op 2 5 (by kernel_rfl) rfl) rfl
  intro B2 a2 W2 S2
  replace S2 : Sta w 6 [(1, (.box 36 (Zv a k)))] [(2, (Is (.bool true)))] B2 a2 W2 := S2
  refine wp_ret ?_
  exact end_one S2 rfl (res_tmp S2 0 2 rfl)

set_option maxHeartbeats 400000 in
theorem lead1_n (w : World) (u : Value) (k : Nat) (a : Int) (h : Hs w (Zv a k) u) (hs : k ≤ 1073741824) (h4 : a.sign = 0) :
    Calls Tryd.prog 44 #[u] w (Gives (IS (.bool false)) w) := by
  refine calls_sta (sl := [(0, (Zv a k))]) Tryd.func44 rfl Tryd.ntmps44 (by simp) (args_cons rfl (h) args_nil) ?_
  intro a0 S0
  refine wp_stmt_seq [.new (.box 36 (Zv a k)),
      .val (Is (.bool false))] [.inl 0] [.inl 1] follows S0 rfl (by kernel_rfl) ?_ ?_
  · refine ⟨⟨trivial, ?_⟩, ?_⟩
    · exact owe_box rfl (wants_all rfl) rfl (opnd_slot 0 0 rfl (by kernel_rfl)) rfl (fun ρ w h => box_int shp_zv ρ _ _ w h)
    · exact owe_move rfl (wants_all rfl) (Or.inr rfl) (opnd_const _) rfl
  intro B1 a1 W1 S1
  replace S1 : Sta w 6 [(1, (.box 36 (Zv a k)))] [(2, (Is (.bool false)))] B1 a1 W1 := S1
  refine wp_stmt_seq [.val (Zv a k),
      .val (Is (.int .i64 a.sign)),
      .val (Is (.bool false)),
      .val (Is (.bool false))] [.inr 0] [.inl 3] follows S1 rfl (by kernel_rfl) ?_ ?_
  · refine ⟨⟨⟨⟨trivial, ?_⟩, ?_⟩, ?_⟩, ?_⟩
    · exact owe_load rfl (wants_all rfl) rfl (k := 0) rfl (by kernel_rfl) (loads_of strct_int shp_zv) rfl
    · exact owe_call1 rfl (wants_all rfl) rfl (opnd_op 0 3 (by kernel_rfl) rfl) (fresh_is _) rfl (fun args w => by go_simp) (h_zsign (by omega))
    · exact owe_bin rfl (wants_all rfl) rfl (opnd_op 1 4 (by kernel_rfl) rfl) (opnd_const _) rfl (fun ρ w h1 h2 => by exact run_neq_int_f ρ _ _ _ w _ _ h4 h1 h2)
    · exact owe_move rfl (wants_all rfl) (Or.inr rfl) (opnd_op 2 5 (by kernel_rfl) rfl) rfl
  intro B2 a2 W2 S2
  replace S2 : Sta w 6 [(1, (.box 36 (Zv a k)))] [(2, (Is (.bool false)))] B2 a2 W2 := S2
  refine wp_ret ?_
  exact end_one S2 rfl (res_tmp S2 0 2 rfl)

theorem lead1_w {k : Nat} (hs : k ≤ 1073741824) : ∀ (a : Int) (w : World) (u : Value), Zv a k u w → Hs w (Zv a k) u → Calls Tryd.prog 44 #[u] w (Gives (IS (.bool (decide (a.sign ≠ 0)))) w) := fun a w u _ h => by
  by_cases h4 : a.sign = 0
  · rw [decide_eq_false (by simp [h4])]
    exact lead1_n w u k a h hs h4
  · rw [decide_eq_true h4]
    exact lead1_y w u k a h hs h4

set_option maxHeartbeats 400000 in
theorem idxf_w (w : World) (u f : Value) (n k : Nat) (As : List Int) (h : Hs w (Vv n As k) u) (hn : n ≤ 1048576) (hs : k ≤ 1073741824) (hf : Hs w (Fn1 (As.map (fun z => Zv z k)) (As.map (fun a => IS (.bool (decide (a.sign ≠ 0)))))) f) :
    Calls Tryd.prog 43 #[u, f] w (Gives (IS (.int .i64 (leadZ As))) w) := by
  have hA := vv_len h.now
  refine calls_sta (sl := [(0, (Vv n As k)), (1, (Fn1 (As.map (fun z => Zv z k)) (As.map (fun a => IS (.bool (decide (a.sign ≠ 0)))))))]) Tryd.func43 rfl Tryd.ntmps43 (by simp) (args_cons rfl (h) (args_cons rfl (hf) args_nil)) ?_
  intro a0 S0
  refine wp_stmt_seq [.val (Is (.int .i64 0))] [] [.inl 0, .inr 0, .inr 1] follows S0 rfl (by kernel_rfl) ?_ ?_
  · refine ⟨trivial, ?_⟩
    · exact owe_move rfl (wants_all rfl) (Or.inr rfl) (opnd_const _) rfl
  intro B1 a1 W1 S1
  replace S1 : Sta w 19 [] [(4, (Is (.int .i64 0))), (0, (Vv n As k)), (1, (Fn1 (As.map (fun z => Zv z k)) (As.map (fun a => IS (.bool (decide (a.sign ≠ 0)))))))] B1 a1 W1 := S1
  refine wp_seq ?_
  refine wp_stmt_seq [.val (Vv n As k),
      .val (Is (.int .i64 (n : Nat))),
      .val (Is (.int .i64 0))] [] [.inl 1, .inl 2, .inr 0, .inr 1, .inr 2] follows S1 rfl (by kernel_rfl) ?_ ?_
  · refine ⟨⟨⟨trivial, ?_⟩, ?_⟩, ?_⟩
    · exact owe_move rfl (wants_all rfl) (Or.inl rfl) (opnd_slot 1 0 rfl (by kernel_rfl)) rfl
    · exact owe_len rfl (wants_all rfl) rfl (opnd_op 0 6 (by kernel_rfl) rfl) ar_len Tryd.underlying23 rfl
    · exact owe_move rfl (wants_all rfl) (Or.inl rfl) (opnd_const _) rfl
  intro B2 a2 W2 S2
  replace S2 : Sta w 19 [] [(7, (Is (.int .i64 (n : Nat)))), (8, (Is (.int .i64 0))), (4, (Is (.int .i64 0))), (0, (Vv n As k)), (1, (Fn1 (As.map (fun z => Zv z k)) (As.map (fun a => IS (.bool (decide (a.sign ≠ 0)))))))] B2 a2 W2 := S2
  refine wp_block ?_
  refine wp_loop_ghost (fun (k0 : Nat) a W => (k0 ≤ n ∧ ∀ (j : Nat) x, j < k0 → As[j]? = some x → x = 0) ∧ ∃ Bq, Sta w 19 [] [(7, (Is (.int .i64 (n : Nat)))), (8, (Is (.int .i64 k0))), (0, (Vv n As k)), (1, (Fn1 (As.map (fun z => Zv z k)) (As.map (fun a => IS (.bool (decide (a.sign ≠ 0)))))))] Bq a W) (fun (k0 : Nat) => n - k0) ?_ 0 ⟨⟨Nat.zero_le _, fun j x hj => by omega⟩, B2, S2.sub [] [0, 1, 3, 4]⟩
  rintro k0 a3 W3 ⟨hcond, B3, S3⟩
  rcases (show (k0 < n ∧ As.getD k0 0 ≠ 0) ∨ (k0 < n ∧ As.getD k0 0 = 0) ∨ n ≤ k0 from by omega) with ⟨h1, h3⟩ | ⟨h1, h3⟩ | h1
  · obtain ⟨a, ha⟩ : ∃ a, As[k0]? = some a := ⟨As[k0]'(by omega), List.getElem?_eq_getElem _⟩
    rw [List.getD_eq_getElem?_getD, ha] at h3
    have h3 : a ≠ 0 := h3
    have h4 : a.sign ≠ 0 := fun e => h3 (Int.sign_eq_zero_iff_zero.1 e)
    rw [lead_at hcond.2 ha h3]
    have hd : decide (a.sign ≠ 0) = true := decide_eq_true h4
    have hz := map_get' (fun a => IS (.bool (decide (a.sign ≠ 0)))) ha
    rw [hd] at hz
    refine wp_stmt_seq [.val (Is (.bool true))] [] [.inl 0, .inr 0, .inr 1, .inr 2, .inr 3] follows S3 rfl (by kernel_rfl) ?_ ?_
    · refine ⟨trivial, ?_⟩
      · exact owe_bin rfl (wants_all rfl) rfl (opnd_slot 1 8 rfl (by kernel_rfl)) (opnd_slot 0 7 rfl (by kernel_rfl)) rfl (fun ρ w h1 h2 => by exact run_lss_int_t ρ _ _ _ w _ _ (by omega) h1 h2)
    intro B4 a4 W4 S4
    replace S4 : Sta w 19 [] [(9, (Is (.bool true))), (7, (Is (.int .i64 (n : Nat)))), (8, (Is (.int .i64 k0))), (0, (Vv n As k)), (1, (Fn1 (As.map (fun z => Zv z k)) (As.map (fun a => IS (.bool (decide (a.sign ≠ 0)))))))] B4 a4 W4 := S4
    refine wp_seq ?_
    refine wp_cond_true (S4.bool 0 9 rfl) ?_
    refine wp_skip ?_
    refine thenN ?_
    refine wp_seq ?_
    refine wp_block ?_
    refine wp_stmt_seq [.val (Is (.int .i64 k0)),
      .val (Is (.int .i64 k0))] [] [.inl 1, .inr 0, .inr 1, .inr 2, .inr 3, .inr 4] follows S4 rfl (by kernel_rfl) ?_ ?_
    · refine ⟨⟨trivial, ?_⟩, ?_⟩
      · exact owe_move rfl (wants_all rfl) (Or.inl rfl) (opnd_slot 2 8 rfl (by kernel_rfl)) rfl
      · exact owe_move rfl (wants_all rfl) (Or.inr rfl) (opnd_op 0 10 (by kernel_rfl) rfl) rfl
    intro B5 a5 W5 S5
    replace S5 : Sta w 19 [] [(5, (Is (.int .i64 k0))), (9, (Is (.bool true))), (7, (Is (.int .i64 (n : Nat)))), (8, (Is (.int .i64 k0))), (0, (Vv n As k)), (1, (Fn1 (As.map (fun z => Zv z k)) (As.map (fun a => IS (.bool (decide (a.sign ≠ 0)))))))] B5 a5 W5 := S5
    refine wp_stmt_seq [.val (Fn1 (As.map (fun z => Zv z k)) (As.map (fun a => IS (.bool (decide (a.sign ≠ 0)))))),
      .val (Vv n As k),
      .val (Is (.int .i64 k0)),
      .val (AtE 2 (Zv a k)),
      .val (Zv a k),
      .val (Is (.bool true))] [] [.inl 5, .inr 0, .inr 1, .inr 2, .inr 3, .inr 4, .inr 5] follows S5 rfl (by kernel_rfl) ?_ ?_
    · refine ⟨⟨⟨⟨⟨⟨trivial, ?_⟩, ?_⟩, ?_⟩, ?_⟩, ?_⟩, ?_⟩
      · exact owe_move rfl (wants_all rfl) (Or.inl rfl) (opnd_slot 5 1 rfl (by kernel_rfl)) rfl
      · exact owe_move rfl (wants_all rfl) (Or.inl rfl) (opnd_slot 4 0 rfl (by kernel_rfl)) rfl
      · exact owe_move rfl (wants_all rfl) (Or.inl rfl) (opnd_slot 0 5 rfl (by kernel_rfl)) rfl
      · exact owe_aindex rfl (wants_all rfl) rfl idx_ints (opnd_op 1 12 (by kernel_rfl) rfl) (opnd_op 2 13 (by kernel_rfl) rfl) (map_get' _ ha) rfl
      · exact owe_aload rfl (wants_all rfl) rfl ldr_int (by decide) (cel_shp (by decide) shp_zv) (opnd_op 3 14 (by kernel_rfl) rfl) rfl
      · exact owe_callv1 k0 rfl (wants_all rfl) rfl (opnd_op 0 11 (by kernel_rfl) rfl) (map_get' _ ha) hz (opnd_op 4 15 (by kernel_rfl) rfl) (fresh_is _) rfl
    intro B6 a6 W6 S6
    replace S6 : Sta w 19 [] [(16, (Is (.bool true))), (5, (Is (.int .i64 k0))), (9, (Is (.bool true))), (7, (Is (.int .i64 (n : Nat)))), (8, (Is (.int .i64 k0))), (0, (Vv n As k)), (1, (Fn1 (As.map (fun z => Zv z k)) (As.map (fun a => IS (.bool (decide (a.sign ≠ 0)))))))] B6 a6 W6 := S6
    refine wp_cond_true (S6.bool 0 16 rfl) ?_
    refine wp_stmt_seq [.val (Is (.int .i64 k0)),
      .val (Is (.int .i64 k0))] [] [.inl 1, .inr 0, .inr 1, .inr 2, .inr 3, .inr 4, .inr 5, .inr 6] follows S6 rfl (by kernel_rfl) ?_ ?_
    · refine ⟨⟨trivial, ?_⟩, ?_⟩
      · exact owe_move rfl (wants_all rfl) (Or.inl rfl) (opnd_slot 1 5 rfl (by kernel_rfl)) rfl
      · exact owe_move rfl (wants_all rfl) (Or.inr rfl) (opnd_op 0 17 (by kernel_rfl) rfl) rfl
    intro B7 a7 W7 S7
    replace S7 : Sta w 19 [] [(4, (Is (.int .i64 k0))), (16, (Is (.bool true))), (5, (Is (.int .i64 k0))), (9, (Is (.bool true))), (7, (Is (.int .i64 (n : Nat)))), (8, (Is (.int .i64 k0))), (0, (Vv n As k)), (1, (Fn1 (As.map (fun z => Zv z k)) (As.map (fun a => IS (.bool (decide (a.sign ≠ 0)))))))] B7 a7 W7 := S7
    refine wp_ret ?_
    refine inBlkR ?_
    refine thenR ?_
    refine thenR ?_
    refine inBlkR ?_
    refine thenR ?_
    exact end_one S7 rfl (res_tmp S7 0 4 rfl)
  · obtain ⟨a, ha⟩ : ∃ a, As[k0]? = some a := ⟨As[k0]'(by omega), List.getElem?_eq_getElem _⟩
    rw [List.getD_eq_getElem?_getD, ha] at h3
    have h3 : a = 0 := h3
    have h4 : a.sign = 0 := Int.sign_eq_zero_iff_zero.2 h3
    have hd : decide (a.sign ≠ 0) = false := decide_eq_false (by simp [h4])
    have hz := map_get' (fun a => IS (.bool (decide (a.sign ≠ 0)))) ha
    rw [hd] at hz
    refine wp_stmt_seq [.val (Is (.bool true))] [] [.inl 0, .inr 0, .inr 1, .inr 2, .inr 3] follows S3 rfl (by kernel_rfl) ?_ ?_
    · refine ⟨trivial, ?_⟩
      · exact owe_bin rfl (wants_all rfl) rfl (opnd_slot 1 8 rfl (by kernel_rfl)) (opnd_slot 0 7 rfl (by kernel_rfl)) rfl (fun ρ w h1 h2 => by exact run_lss_int_t ρ _ _ _ w _ _ (by omega) h1 h2)
    intro B4 a4 W4 S4
    replace S4 : Sta w 19 [] [(9, (Is (.bool true))), (7, (Is (.int .i64 (n : Nat)))), (8, (Is (.int .i64 k0))), (0, (Vv n As k)), (1, (Fn1 (As.map (fun z => Zv z k)) (As.map (fun a => IS (.bool (decide (a.sign ≠ 0)))))))] B4 a4 W4 := S4
    refine wp_seq ?_
    refine wp_cond_true (S4.bool 0 9 rfl) ?_
    refine wp_skip ?_
    refine thenN ?_
    refine wp_seq ?_
    refine wp_block ?_
    refine wp_stmt_seq [.val (Is (.int .i64 k0)),
      .val (Is (.int .i64 k0))] [] [.inl 1, .inr 0, .inr 1, .inr 2, .inr 3, .inr 4] follows S4 rfl (by kernel_rfl) ?_ ?_
    · refine ⟨⟨trivial, ?_⟩, ?_⟩
      · exact owe_move rfl (wants_all rfl) (Or.inl rfl) (opnd_slot 2 8 rfl (by kernel_rfl)) rfl
      · exact owe_move rfl (wants_all rfl) (Or.inr rfl) (opnd_op 0 10 (by kernel_rfl) rfl) rfl
    intro B5 a5 W5 S5
    replace S5 : Sta w 19 [] [(5, (Is (.int .i64 k0))), (9, (Is (.bool true))), (7, (Is (.int .i64 (n : Nat)))), (8, (Is (.int .i64 k0))), (0, (Vv n As k)), (1, (Fn1 (As.map (fun z => Zv z k)) (As.map (fun a => IS (.bool (decide (a.sign ≠ 0)))))))] B5 a5 W5 := S5
    refine wp_stmt_seq [.val (Fn1 (As.map (fun z => Zv z k)) (As.map (fun a => IS (.bool (decide (a.sign ≠ 0)))))),
      .val (Vv n As k),
      .val (Is (.int .i64 k0)),
      .val (AtE 2 (Zv a k)),
      .val (Zv a k),
      .val (Is (.bool false))] [] [.inl 5, .inr 0, .inr 1, .inr 2, .inr 3, .inr 4, .inr 5] follows S5 rfl (by kernel_rfl) ?_ ?_
    · refine ⟨⟨⟨⟨⟨⟨trivial, ?_⟩, ?_⟩, ?_⟩, ?_⟩, ?_⟩, ?_⟩
      · exact owe_move rfl (wants_all rfl) (Or.inl rfl) (opnd_slot 5 1 rfl (by kernel_rfl)) rfl
      · exact owe_move rfl (wants_all rfl) (Or.inl rfl) (opnd_slot 4 0 rfl (by kernel_rfl)) rfl
      · exact owe_move rfl (wants_all rfl) (Or.inl rfl) (opnd_slot 0 5 rfl (by kernel_rfl)) rfl
      · exact owe_aindex rfl (wants_all rfl) rfl idx_ints (opnd_op 1 12 (by kernel_rfl) rfl) (opnd_op 2 13 (by kernel_rfl) rfl) (map_get' _ ha) rfl
      · exact owe_aload rfl (wants_all rfl) rfl ldr_int (by decide) (cel_shp (by decide) shp_zv) (opnd_op 3 14 (by kernel_rfl) rfl) rfl
      · exact owe_callv1 k0 rfl (wants_all rfl) rfl (opnd_op 0 11 (by kernel_rfl) rfl) (map_get' _ ha) hz (opnd_op 4 15 (by kernel_rfl) rfl) (fresh_is _) rfl
    intro B6 a6 W6 S6
    replace S6 : Sta w 19 [] [(16, (Is (.bool false))), (5, (Is (.int .i64 k0))), (9, (Is (.bool true))), (7, (Is (.int .i64 (n : Nat)))), (8, (Is (.int .i64 k0))), (0, (Vv n As k)), (1, (Fn1 (As.map (fun z => Zv z k)) (As.map (fun a => IS (.bool (decide (a.sign ≠ 0)))))))] B6 a6 W6 := S6
    refine wp_cond_false (S6.bool 0 16 rfl) ?_
    refine wp_skip ?_
    refine inBlkN ?_
    refine thenN ?_
    refine wp_stmt [.val (Is (.int .i64 (k0 + 1 : Nat))),
      .val (Is (.int .i64 (k0 + 1 : Nat)))] [] [.inl 1, .inr 0, .inr 1, .inr 2, .inr 3, .inr 5, .inr 6] follows S6 rfl (by kernel_rfl) ?_ ?_
    · refine ⟨⟨trivial, ?_⟩, ?_⟩
      · exact owe_bin rfl (wants_all rfl) rfl (opnd_slot 4 8 rfl (by kernel_rfl)) (opnd_const _) rfl (fun ρ w h1 h2 => by exact run_add_int ρ _ _ _ w _ _ _ ⟨by omega, by omega, by omega⟩ h1 h2)
      · exact owe_move rfl (wants_all rfl) (Or.inl rfl) (opnd_op 0 18 (by kernel_rfl) rfl) rfl
    intro B7 a7 W7 S7
    replace S7 : Sta w 19 [] [(8, (Is (.int .i64 (k0 + 1 : Nat)))), (16, (Is (.bool false))), (5, (Is (.int .i64 k0))), (9, (Is (.bool true))), (7, (Is (.int .i64 (n : Nat)))), (0, (Vv n As k)), (1, (Fn1 (As.map (fun z => Zv z k)) (As.map (fun a => IS (.bool (decide (a.sign ≠ 0)))))))] B7 a7 W7 := S7
    refine thenN ?_
    exact ⟨k0 + 1, ⟨⟨by omega, fun j x hj hx => by rcases Nat.lt_or_ge j k0 with hj' | hj'; exact hcond.2 j x hj' hx; obtain rfl : j = k0 := (by omega); rw [ha] at hx; cases hx; exact h3⟩, B7, S7.sub [] [4, 0, 5, 6]⟩, by omega⟩
  · rw [lead_none (fun j x hx => hcond.2 j x (by have := (List.getElem?_eq_some_iff.1 hx).1; omega) hx)]
    refine wp_stmt_seq [.val (Is (.bool false))] [] [.inl 0, .inr 0, .inr 1, .inr 2, .inr 3] follows S3 rfl (by kernel_rfl) ?_ ?_
    · refine ⟨trivial, ?_⟩
      · exact owe_bin rfl (wants_all rfl) rfl (opnd_slot 1 8 rfl (by kernel_rfl)) (opnd_slot 0 7 rfl (by kernel_rfl)) rfl (fun ρ w h1 h2 => by exact run_lss_int_f ρ _ _ _ w _ _ (by omega) h1 h2)
    intro B4 a4 W4 S4
    replace S4 : Sta w 19 [] [(9, (Is (.bool false))), (7, (Is (.int .i64 (n : Nat)))), (8, (Is (.int .i64 k0))), (0, (Vv n As k)), (1, (Fn1 (As.map (fun z => Zv z k)) (As.map (fun a => IS (.bool (decide (a.sign ≠ 0)))))))] B4 a4 W4 := S4
    refine wp_seq ?_
    refine wp_cond_false (S4.bool 0 9 rfl) ?_
    refine wp_exit ?_
    refine thenX ?_
    refine thenX ?_
    refine inBlkE ?_
    refine thenN ?_
    refine wp_stmt_seq [.val (Is (.int .i64 (-1)))] [] [.inl 0, .inr 0, .inr 1, .inr 2, .inr 3, .inr 4] follows S4 rfl (by kernel_rfl) ?_ ?_
    · refine ⟨trivial, ?_⟩
      · exact owe_move rfl (wants_all rfl) (Or.inr rfl) (opnd_const _) rfl
    intro B5 a5 W5 S5
    replace S5 : Sta w 19 [] [(4, (Is (.int .i64 (-1)))), (9, (Is (.bool false))), (7, (Is (.int .i64 (n : Nat)))), (8, (Is (.int .i64 k0))), (0, (Vv n As k)), (1, (Fn1 (As.map (fun z => Zv z k)) (As.map (fun a => IS (.bool (decide (a.sign ≠ 0)))))))] B5 a5 W5 := S5
    refine wp_ret ?_
    exact end_one S5 rfl (res_tmp S5 0 4 rfl)

set_option maxHeartbeats 400000 in
theorem lead_w (w : World) (u : Value) (n k : Nat) (As : List Int) (h : Hs w (Vv n As k) u) (hn : n ≤ 1048576) (hs : k ≤ 1073741824) :
    Calls Tryd.prog 20 #[u] w (Gives (IS (.int .i64 (leadZ As))) w) := by
  refine calls_sta (sl := [(0, (Vv n As k))]) Tryd.func20 rfl Tryd.ntmps20 (by simp) (args_cons rfl (h) args_nil) ?_
  intro a0 S0
  refine wp_stmt_seq [.val (Is (.int .i64 0))] [] [.inl 0, .inr 0] follows S0 rfl (by kernel_rfl) ?_ ?_
  · refine ⟨trivial, ?_⟩
    · exact owe_move rfl (wants_all rfl) (Or.inr rfl) (opnd_const _) rfl
  intro B1 a1 W1 S1
  replace S1 : Sta w 5 [] [(2, (Is (.int .i64 0))), (0, (Vv n As k))] B1 a1 W1 := S1
  refine wp_stmt_seq [.val (Vv n As k),
      .val (Is (.int .i64 (leadZ As))),
      .val (Is (.int .i64 (leadZ As)))] [] [.inl 2] follows S1 rfl (by kernel_rfl) ?_ ?_
  · refine ⟨⟨⟨trivial, ?_⟩, ?_⟩, ?_⟩
    · exact owe_move rfl (wants_all rfl) (Or.inl rfl) (opnd_slot 1 0 rfl (by kernel_rfl)) rfl
    · exact owe_callh2 rfl (wants_all rfl) rfl (opnd_op 0 3 (by kernel_rfl) rfl) ((opnd_func _).imp (is_fn1 (fun args w => by go_simp) (fun i φ ψ h1 h2 w u hu => by obtain ⟨a, ha, rfl⟩ := map_get h1; obtain ⟨b, hb, rfl⟩ := map_get h2; rw [ha] at hb; cases hb; exact lead1_w hs a w u hu.now hu))) (fresh_is _) rfl (fun args w => by go_simp) (fun w u f h hf => idxf_w w u f n k As h hn hs hf)
    · exact owe_move rfl (wants_all rfl) (Or.inr rfl) (opnd_op 1 4 (by kernel_rfl) rfl) rfl
  intro B2 a2 W2 S2
  replace S2 : Sta w 5 [] [(2, (Is (.int .i64 (leadZ As))))] B2 a2 W2 := S2
  refine wp_ret ?_
  exact end_one S2 rfl (res_tmp S2 0 2 rfl)

set_option maxHeartbeats 400000 in
theorem up_n (w : World) (u : Value) (n k : Nat) (As : List Int) (h : Hs w (Vv n As k) u) (hn : n ≤ 1048576) (hs : k ≤ 1073741824) (hl : leadZ As = -1) (hu : upZ As = As.map (fun a => a)) :
    Calls Tryd.prog 21 #[u] w (Gives (VN n (upZ As)) w) := by
  have hA := vv_len h.now
  rw [hu]
  refine calls_sta (sl := [(0, (Vv n As k))]) Tryd.func21 rfl Tryd.ntmps21 (by simp) (args_cons rfl (h) args_nil) ?_
  intro a0 S0
  refine wp_stmt_seq [.val (Is (.slice none 0 0))] [] [.inl 0, .inr 0] follows S0 rfl (by kernel_rfl) ?_ ?_
  · refine ⟨trivial, ?_⟩
    · exact owe_move rfl (wants_all rfl) (Or.inr rfl) (opnd_const _) rfl
  intro B1 a1 W1 S1
  replace S1 : Sta w 20 [] [(2, (Is (.slice none 0 0))), (0, (Vv n As k))] B1 a1 W1 := S1
  refine wp_seq ?_
  refine wp_stmt_seq [.val (Vv n As k),
      .val (Is (.int .i64 (-1))),
      .val (Is (.int .i64 (-1)))] [] [.inl 2, .inr 0, .inr 1] follows S1 rfl (by kernel_rfl) ?_ ?_
  · refine ⟨⟨⟨trivial, ?_⟩, ?_⟩, ?_⟩
    · exact owe_move rfl (wants_all rfl) (Or.inl rfl) (opnd_slot 1 0 rfl (by kernel_rfl)) rfl
    · exact owe_callh1 rfl (wants_all rfl) rfl (opnd_op 0 4 (by kernel_rfl) rfl) (fresh_is _) rfl (fun args w => by go_simp) (fun w u h => by have := lead_w w u n k As h hn (by omega); rw [hl] at this; exact this)
    · exact owe_move rfl (wants_all rfl) (Or.inr rfl) (opnd_op 1 5 (by kernel_rfl) rfl) rfl
  intro B2 a2 W2 S2
  replace S2 : Sta w 20 [] [(3, (Is (.int .i64 (-1)))), (2, (Is (.slice none 0 0))), (0, (Vv n As k))] B2 a2 W2 := S2
  refine wp_stmt_seq [.val (Is (.int .i64 (-1))),
      .val (Is (.bool false)),
      .val (Is (.bool false)),
      .off,
      .off,
      .off,
      .off,
      .off,
      .off,
      .val (Is (.bool false))] [] [.inl 9, .inr 1, .inr 2] follows S2 rfl (by kernel_rfl) ?_ ?_
  · refine ⟨⟨⟨⟨⟨⟨⟨⟨⟨⟨trivial, ?_⟩, ?_⟩, ?_⟩, ?_⟩, ?_⟩, ?_⟩, ?_⟩, ?_⟩, ?_⟩, ?_⟩
    · exact owe_move rfl (wants_all rfl) (Or.inl rfl) (opnd_slot 0 3 rfl (by kernel_rfl)) rfl
    · exact owe_bin rfl (wants_all rfl) rfl (opnd_op 0 6 (by kernel_rfl) rfl) (opnd_const _) rfl (fun ρ w h1 h2 => by exact run_geq_int_f ρ _ _ _ w _ _ (by omega) h1 h2)
    · exact owe_move rfl (wants_all rfl) (Or.inl rfl) (opnd_op 1 7 (by kernel_rfl) rfl) rfl
    · exact owe_off 2 8 rfl rfl rfl (by kernel_rfl) rfl (by decide)
    · exact owe_off 2 8 rfl rfl rfl (by kernel_rfl) rfl (by decide)
    · exact owe_off 2 8 rfl rfl rfl (by kernel_rfl) rfl (by decide)
    · exact owe_off 2 8 rfl rfl rfl (by kernel_rfl) rfl (by decide)
    · exact owe_off 2 8 rfl rfl rfl (by kernel_rfl) rfl (by decide)
    · exact owe_off 2 8 rfl rfl rfl (by kernel_rfl) rfl (by decide)
    · exact owe_pick rfl (wants_all rfl) rfl (opnd_op 2 8 (by kernel_rfl) rfl) (fun h => nomatch h) (fun _ => (opnd_const _)) rfl
  intro B3 a3 W3 S3
  replace S3 : Sta w 20 [] [(15, (Is (.bool false))), (2, (Is (.slice none 0 0))), (0, (Vv n As k))] B3 a3 W3 := S3
  refine wp_cond_false (S3.bool 0 15 rfl) ?_
  refine wp_skip ?_
  refine thenN ?_
  refine wp_stmt_seq [.val (Vv n As k),
      .val ((VN n (As.map (fun a => a))) w.heap.size),
      .val ((VN n (As.map (fun a => a))) w.heap.size)] [] [.inl 2, .inr 0, .inr 2] follows S3 rfl (by kernel_rfl) ?_ ?_
  · refine ⟨⟨⟨trivial, ?_⟩, ?_⟩, ?_⟩
    · exact owe_move rfl (wants_all rfl) (Or.inl rfl) (opnd_slot 2 0 rfl (by kernel_rfl)) rfl
    · exact owe_callh2 rfl (wants_all rfl) rfl (opnd_op 0 18 (by kernel_rfl) rfl) ((opnd_func _).imp (fn1_map (G := fun a => ZN ((fun a => a) a)) (fun args w => by go_simp) (fun a => h_zform (by omega)))) fresh_vn rfl (fun args w => by go_simp) (h_each (F := fun a => a) hn)
    · exact owe_move rfl (wants_all rfl) (Or.inr rfl) (opnd_op 1 19 (by kernel_rfl) rfl) rfl
  intro B4 a4 W4 S4
  replace S4 : Sta w 20 [] [(2, ((VN n (As.map (fun a => a))) w.heap.size)), (15, (Is (.bool false))), (0, (Vv n As k))] B4 a4 W4 := S4
  refine wp_ret ?_
  exact end_one S4 rfl (res_tmp S4 0 2 rfl)

set_option maxHeartbeats 400000 in
theorem up_d (w : World) (u : Value) (n k : Nat) (As : List Int) (h : Hs w (Vv n As k) u) (hn : n ≤ 1048576) (hs : k ≤ 1073741824) (k0 : Nat) (a : Int) (hl : leadZ As = (k0 : Nat)) (ha : As[k0]? = some a) (hg : a.sign < 0) (hu : upZ As = As.map (fun a => -a)) :
    Calls Tryd.prog 21 #[u] w (Gives (VN n (upZ As)) w) := by
  have hA := vv_len h.now
  rw [hu]
  refine calls_sta (sl := [(0, (Vv n As k))]) Tryd.func21 rfl Tryd.ntmps21 (by simp) (args_cons rfl (h) args_nil) ?_
  intro a0 S0
  refine wp_stmt_seq [.val (Is (.slice none 0 0))] [] [.inl 0, .inr 0] follows S0 rfl (by kernel_rfl) ?_ ?_
  · refine ⟨trivial, ?_⟩
    · exact owe_move rfl (wants_all rfl) (Or.inr rfl) (opnd_const _) rfl
  intro B1 a1 W1 S1
  replace S1 : Sta w 20 [] [(2, (Is (.slice none 0 0))), (0, (Vv n As k))] B1 a1 W1 := S1
  refine wp_seq ?_
  refine wp_stmt_seq [.val (Vv n As k),
      .val (Is (.int .i64 (k0 : Nat))),
      .val (Is (.int .i64 (k0 : Nat)))] [] [.inl 2, .inr 0, .inr 1] follows S1 rfl (by kernel_rfl) ?_ ?_
  · refine ⟨⟨⟨trivial, ?_⟩, ?_⟩, ?_⟩
    · exact owe_move rfl (wants_all rfl) (Or.inl rfl) (opnd_slot 1 0 rfl (by kernel_rfl)) rfl
    · exact owe_callh1 rfl (wants_all rfl) rfl (opnd_op 0 4 (by kernel_rfl) rfl) (fresh_is _) rfl (fun args w => by go_simp) (fun w u h => by have := lead_w w u n k As h hn (by omega); rw [hl] at this; exact this)
    · exact owe_move rfl (wants_all rfl) (Or.inr rfl) (opnd_op 1 5 (by kernel_rfl) rfl) rfl
  intro B2 a2 W2 S2
  replace S2 : Sta w 20 [] [(3, (Is (.int .i64 (k0 : Nat)))), (2, (Is (.slice none 0 0))), (0, (Vv n As k))] B2 a2 W2 := S2
  refine wp_stmt_seq [.val (Is (.int .i64 (k0 : Nat))),
      .val (Is (.bool true)),
      .val (Is (.bool true)),
      .val (Vv n As k),
      .val (Is (.int .i64 (k0 : Nat))),
      .val (AtE 2 (Zv a k)),
      .val (Zv a k),
      .val (Is (.int .i64 a.sign)),
      .val (Is (.bool true)),
      .val (Is (.bool true))] [] [.inl 9, .inr 1, .inr 2] follows S2 rfl (by kernel_rfl) ?_ ?_
  · refine ⟨⟨⟨⟨⟨⟨⟨⟨⟨⟨trivial, ?_⟩, ?_⟩, ?_⟩, ?_⟩, ?_⟩, ?_⟩, ?_⟩, ?_⟩, ?_⟩, ?_⟩
    · exact owe_move rfl (wants_all rfl) (Or.inl rfl) (opnd_slot 0 3 rfl (by kernel_rfl)) rfl
    · exact owe_bin rfl (wants_all rfl) rfl (opnd_op 0 6 (by kernel_rfl) rfl) (opnd_const _) rfl (fun ρ w h1 h2 => by exact run_geq_int_t ρ _ _ _ w _ _ (by omega) h1 h2)
    · exact owe_move rfl (wants_all rfl) (Or.inl rfl) (opnd_op 1 7 (by kernel_rfl) rfl) rfl
    · exact owe_move rfl (wants_if 2 8 rfl (by kernel_rfl) rfl) (Or.inl rfl) (opnd_slot 2 0 rfl (by kernel_rfl)) rfl
    · exact owe_move rfl (wants_if 2 8 rfl (by kernel_rfl) rfl) (Or.inl rfl) (opnd_slot 0 3 rfl (by kernel_rfl)) rfl
    · exact owe_aindex rfl (wants_if 2 8 rfl (by kernel_rfl) rfl) rfl idx_ints (opnd_op 3 9 (by kernel_rfl) rfl) (opnd_op 4 10 (by kernel_rfl) rfl) (map_get' _ ha) rfl
    · exact owe_aload rfl (wants_if 2 8 rfl (by kernel_rfl) rfl) rfl ldr_int (by decide) (cel_shp (by decide) shp_zv) (opnd_op 5 11 (by kernel_rfl) rfl) rfl
    · exact owe_call1 rfl (wants_if 2 8 rfl (by kernel_rfl) rfl) rfl (opnd_op 6 12 (by kernel_rfl) rfl) (fresh_is _) rfl (fun args w => by go_simp) (h_zsign (by omega))
    · exact owe_bin rfl (wants_if 2 8 rfl (by kernel_rfl) rfl) rfl (opnd_op 7 13 (by kernel_rfl) rfl) (opnd_const _) rfl (fun ρ w h1 h2 => by exact run_lss_int_t ρ _ _ _ w _ _ hg h1 h2)
    · exact owe_pick rfl (wants_all rfl) rfl (opnd_op 2 8 (by kernel_rfl) rfl) (fun _ => (opnd_op 8 14 (by kernel_rfl) rfl)) (fun h => nomatch h) rfl
  intro B3 a3 W3 S3
  replace S3 : Sta w 20 [] [(15, (Is (.bool true))), (2, (Is (.slice none 0 0))), (0, (Vv n As k))] B3 a3 W3 := S3
  refine wp_cond_true (S3.bool 0 15 rfl) ?_
  refine wp_stmt_seq [.val (Vv n As k),
      .val ((VN n (As.map (fun a => -a))) w.heap.size),
      .val ((VN n (As.map (fun a => -a))) w.heap.size)] [] [.inl 2, .inr 0, .inr 2] follows S3 rfl (by kernel_rfl) ?_ ?_
  · refine ⟨⟨⟨trivial, ?_⟩, ?_⟩, ?_⟩
    · exact owe_move rfl (wants_all rfl) (Or.inl rfl) (opnd_slot 2 0 rfl (by kernel_rfl)) rfl
    · exact owe_callh2 rfl (wants_all rfl) rfl (opnd_op 0 16 (by kernel_rfl) rfl) ((opnd_func _).imp (fn1_map (G := fun a => ZN ((fun a => -a) a)) (fun args w => by go_simp) (fun a => h_zneg (by omega)))) fresh_vn rfl (fun args w => by go_simp) (h_each (F := fun a => -a) hn)
    · exact owe_move rfl (wants_all rfl) (Or.inr rfl) (opnd_op 1 17 (by kernel_rfl) rfl) rfl
  intro B4 a4 W4 S4
  replace S4 : Sta w 20 [] [(2, ((VN n (As.map (fun a => -a))) w.heap.size)), (15, (Is (.bool true))), (0, (Vv n As k))] B4 a4 W4 := S4
  refine wp_ret ?_
  refine thenR ?_
  exact end_one S4 rfl (res_tmp S4 0 2 rfl)

set_option maxHeartbeats 400000 in
theorem up_u (w : World) (u : Value) (n k : Nat) (As : List Int) (h : Hs w (Vv n As k) u) (hn : n ≤ 1048576) (hs : k ≤ 1073741824) (k0 : Nat) (a : Int) (hl : leadZ As = (k0 : Nat)) (ha : As[k0]? = some a) (hg : 0 ≤ a.sign) (hu : upZ As = As.map (fun a => a)) :
    Calls Tryd.prog 21 #[u] w (Gives (VN n (upZ As)) w) := by
  have hA := vv_len h.now
  rw [hu]
  refine calls_sta (sl := [(0, (Vv n As k))]) Tryd.func21 rfl Tryd.ntmps21 (by simp) (args_cons rfl (h) args_nil) ?_
  intro a0 S0
  refine wp_stmt_seq [.val (Is (.slice none 0 0))] [] [.inl 0, .inr 0] follows S0 rfl (by kernel_rfl) ?_ ?_
  · refine ⟨trivial, ?_⟩
    · exact owe_move rfl (wants_all rfl) (Or.inr rfl) (opnd_const _) rfl
  intro B1 a1 W1 S1
  replace S1 : Sta w 20 [] [(2, (Is (.slice none 0 0))), (0, (Vv n As k))] B1 a1 W1 := S1
  refine wp_seq ?_
  refine wp_stmt_seq [.val (Vv n As k),
      .val (Is (.int .i64 (k0 : Nat))),
      .val (Is (.int .i64 (k0 : Nat)))] [] [.inl 2, .inr 0, .inr 1] follows S1 rfl (by kernel_rfl) ?_ ?_
  · refine ⟨⟨⟨trivial, ?_⟩, ?_⟩, ?_⟩
    · exact owe_move rfl (wants_all rfl) (Or.inl rfl) (opnd_slot 1 0 rfl (by kernel_rfl)) rfl
    · exact owe_callh1 rfl (wants_all rfl) rfl (opnd_op 0 4 (by kernel_rfl) rfl) (fresh_is _) rfl (fun args w => by go_simp) (fun w u h => by have := lead_w w u n k As h hn (by omega); rw [hl] at this; exact this)
    · exact owe_move rfl (wants_all rfl) (Or.inr rfl) (opnd_op 1 5 (by kernel_rfl) rfl) rfl
  intro B2 a2 W2 S2
  replace S2 : Sta w 20 [] [(3, (Is (.int .i64 (k0 : Nat)))), (2, (Is (.slice none 0 0))), (0, (Vv n As k))] B2 a2 W2 := S2
  refine wp_stmt_seq [.val (Is (.int .i64 (k0 : Nat))),
      .val (Is (.bool true)),
      .val (Is (.bool true)),
      .val (Vv n As k),
      .val (Is (.int .i64 (k0 : Nat))),
      .val (AtE 2 (Zv a k)),
      .val (Zv a k),
      .val (Is (.int .i64 a.sign)),
      .val (Is (.bool false)),
      .val (Is (.bool false))] [] [.inl 9, .inr 1, .inr 2] follows S2 rfl (by kernel_rfl) ?_ ?_
  · refine ⟨⟨⟨⟨⟨⟨⟨⟨⟨⟨trivial, ?_⟩, ?_⟩, ?_⟩, ?_⟩, ?_⟩, ?_⟩, ?_⟩, ?_⟩, ?_⟩, ?_⟩
    · exact owe_move rfl (wants_all rfl) (Or.inl rfl) (opnd_slot 0 3 rfl (by kernel_rfl)) rfl
    · exact owe_bin rfl (wants_all rfl) rfl (opnd_op 0 6 (by kernel_rfl) rfl) (opnd_const _) rfl (fun ρ w h1 h2 => by exact run_geq_int_t ρ _ _ _ w _ _ (by omega) h1 h2)
    · exact owe_move rfl (wants_all rfl) (Or.inl rfl) (opnd_op 1 7 (by kernel_rfl) rfl) rfl
    · exact owe_move rfl (wants_if 2 8 rfl (by kernel_rfl) rfl) (Or.inl rfl) (opnd_slot 2 0 rfl (by kernel_rfl)) rfl
    · exact owe_move rfl (wants_if 2 8 rfl (by kernel_rfl) rfl) (Or.inl rfl) (opnd_slot 0 3 rfl (by kernel_rfl)) rfl
    · exact owe_aindex rfl (wants_if 2 8 rfl (by kernel_rfl) rfl) rfl idx_ints (opnd_op 3 9 (by kernel_rfl) rfl) (opnd_op 4 10 (by kernel_rfl) rfl) (map_get' _ ha) rfl
    · exact owe_aload rfl (wants_if 2 8 rfl (by kernel_rfl) rfl) rfl ldr_int (by decide) (cel_shp (by decide) shp_zv) (opnd_op 5 11 (by kernel_rfl) rfl) rfl
    · exact owe_call1 rfl (wants_if 2 8 rfl (by kernel_rfl) rfl) rfl (opnd_op 6 12 (by kernel_rfl) rfl) (fresh_is _) rfl (fun args w => by go_simp) (h_zsign (by omega))
    · exact owe_bin rfl (wants_if 2 8 rfl (by kernel_rfl) rfl) rfl (opnd_op 7 13 (by kernel_rfl) rfl) (opnd_const _) rfl (fun ρ w h1 h2 => by exact run_lss_int_f ρ _ _ _ w _ _ hg h1 h2)
    · exact owe_pick rfl (wants_all rfl) rfl (opnd_op 2 8 (by kernel_rfl) rfl) (fun _ => (opnd_op 8 14 (by kernel_rfl) rfl)) (fun h => nomatch h) rfl
  intro B3 a3 W3 S3
  replace S3 : Sta w 20 [] [(15, (Is (.bool false))), (2, (Is (.slice none 0 0))), (0, (Vv n As k))] B3 a3 W3 := S3
  refine wp_cond_false (S3.bool 0 15 rfl) ?_
  refine wp_skip ?_
  refine thenN ?_
  refine wp_stmt_seq [.val (Vv n As k),
      .val ((VN n (As.map (fun a => a))) w.heap.size),
      .val ((VN n (As.map (fun a => a))) w.heap.size)] [] [.inl 2, .inr 0, .inr 2] follows S3 rfl (by kernel_rfl) ?_ ?_
  · refine ⟨⟨⟨trivial, ?_⟩, ?_⟩, ?_⟩
    · exact owe_move rfl (wants_all rfl) (Or.inl rfl) (opnd_slot 2 0 rfl (by kernel_rfl)) rfl
    · exact owe_callh2 rfl (wants_all rfl) rfl (opnd_op 0 18 (by kernel_rfl) rfl) ((opnd_func _).imp (fn1_map (G := fun a => ZN ((fun a => a) a)) (fun args w => by go_simp) (fun a => h_zform (by omega)))) fresh_vn rfl (fun args w => by go_simp) (h_each (F := fun a => a) hn)
    · exact owe_move rfl (wants_all rfl) (Or.inr rfl) (opnd_op 1 19 (by kernel_rfl) rfl) rfl
  intro B4 a4 W4 S4
  replace S4 : Sta w 20 [] [(2, ((VN n (As.map (fun a => a))) w.heap.size)), (15, (Is (.bool false))), (0, (Vv n As k))] B4 a4 W4 := S4
  refine wp_ret ?_
  exact end_one S4 rfl (res_tmp S4 0 2 rfl)

theorem up_w (w : World) (u : Value) (n k : Nat) (As : List Int) (h : Hs w (Vv n As k) u) (hn : n ≤ 1048576) (hs : k ≤ 1073741823) : Calls Tryd.prog 21 #[u] w (Gives (VN n (upZ As)) w) := by
  rcases lead_cases As with ⟨h1, h2⟩ | ⟨k0, a, h1, h2, h3, h4⟩
  · exact up_n w u n k As h hn (by omega) h1 (upK_up (upK_none h2))
  · have hk := upK_at h1 h2
    by_cases hg : a.sign < 0
    · rw [if_pos hg] at hk
      exact up_d w u n k As h hn (by omega) k0 a h1 h2 hg (upK_dn hk)
    · rw [if_neg hg] at hk
      exact up_u w u n k As h hn (by omega) k0 a h1 h2 (by omega) (upK_up hk)

theorem upK_eq {As : List Int} {K : Int} (h : upK As = K) : upZ As = As.map (fun a => K * a) := by unfold upZ; rw [h]
end Go.Proofs.YtdhjgekbocnnkaaDoor
