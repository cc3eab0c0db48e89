import Derived.Test.YtdhjgekbocnnkaaDoorVec
/-
  mat.each and mat.pairs: the list of what a function makes of the parts of lists.
-/
namespace Go.Proofs.YtdhjgekbocnnkaaDoor
open Go Go.RowKit Nt
set_option linter.unusedSimpArgs false
set_option linter.unusedVariables false
set_option maxRecDepth 20000


theorem set_next {α : Type} {xs : List α} {n k : Nat} {x z : α} (hn : xs.length = n) (hk : xs[k]? = some x) : (xs.take k ++ List.replicate (n - k) z).set k x = xs.take (k + 1) ++ List.replicate (n - (k + 1)) z := by
  have hlt := (List.getElem?_eq_some_iff.1 hk).1
  have e : n - k = (n - (k + 1)) + 1 := by omega
  rw [e, List.replicate_succ, List.take_add_one, hk, List.set_append_right _ _ (by simp; omega), List.length_take, Nat.min_eq_left (by omega), Nat.sub_self]
  simp
theorem fill_end {α : Type} {xs : List α} {n k : Nat} {z : α} (hn : xs.length = n) (hk : n = k) : xs.take k ++ List.replicate (n - k) z = xs := by
  subst hk
  rw [Nat.sub_self, List.take_of_length_le (by omega)]
  simp

set_option maxHeartbeats 400000 in
theorem each_w (w : World) (u f : Value) (n : Nat) (φs : List Pr) (ψs : List (Nat → Pr)) (hl : φs.length = n) (hl' : ψs.length = n) (h : Hs w (Ar 2 n φs) u) (hf : Hs w (Fn1 φs ψs) f) (hS : ∀ (i : Nat) φ, φs[i]? = some φ → Shp 2 φ) (hψ : ∀ (i : Nat) ψ, ψs[i]? = some ψ → Fresh ψ ∧ ∀ lo, Shp 2 (ψ lo)) (hn : n ≤ 1048576) :
    Calls Tryd.prog 40 #[u, f] w (Gives (LF 2 n ψs) w) := by
  refine calls_sta (sl := [(0, (Ar 2 n φs)), (1, (Fn1 φs ψs))]) Tryd.func40 rfl Tryd.ntmps40 (by simp) (args_cons rfl (h) (args_cons rfl (hf) args_nil)) ?_
  intro a0 S0
  refine wp_stmt_seq [.val (Is (.slice none 0 0))] [] [.inl 0, .inr 0, .inr 1] follows S0 rfl (by kernel_rfl) ?_ ?_
  · refine ⟨trivial, ?_⟩
    · exact owe_move rfl (wants_all rfl) (Or.inr rfl) (opnd_const _) rfl
  intro B1 a1 W1 S1
  replace S1 : Sta w 26 [] [(4, (Is (.slice none 0 0))), (0, (Ar 2 n φs)), (1, (Fn1 φs ψs))] B1 a1 W1 := S1
  refine wp_stmt_seq [.val (Ar 2 n φs),
      .val (Is (.int .i64 (n : Nat))),
      .new (.row 36 2 n (CE 2 (List.replicate n (Is (.agg #[.bool false, .slice none 0 0]))))),
      .ref 2] [.inl 3] [.inr 0, .inr 1, .inr 2] follows S1 rfl (by kernel_rfl) ?_ ?_
  · refine ⟨⟨⟨⟨trivial, ?_⟩, ?_⟩, ?_⟩, ?_⟩
    · exact owe_move rfl (wants_all rfl) (Or.inl rfl) (opnd_slot 1 0 rfl (by kernel_rfl)) rfl
    · exact owe_len rfl (wants_all rfl) rfl (opnd_op 0 8 (by kernel_rfl) rfl) ar_len Tryd.underlying23 rfl
    · exact owe_makeE rfl (wants_all rfl) rfl Tryd.underlying23 infoInt celv_z0 (by decide) (opnd_op 1 9 (by kernel_rfl) rfl) ⟨by omega, by unfold maxLen; omega⟩ rfl
    · exact owe_ref 2 rfl (wants_all rfl) (Or.inr rfl) (by kernel_rfl) rfl rfl
  intro B2 a2 W2 S2
  replace S2 : Sta w 26 [(5, (.row 36 2 n (CE 2 (List.replicate n (Is (.agg #[.bool false, .slice none 0 0]))))))] [(4, (Is (.slice none 0 0))), (0, (Ar 2 n φs)), (1, (Fn1 φs ψs))] B2 a2 W2 := S2
  refine wp_seq ?_
  refine wp_stmt_seq [.val (Ar 2 n φs),
      .val (Is (.int .i64 (n : Nat))),
      .val (Is (.int .i64 0))] [.inr 0] [.inl 0, .inl 1, .inl 2, .inr 0, .inr 1, .inr 2] follows S2 rfl (by kernel_rfl) ?_ ?_
  · refine ⟨⟨⟨trivial, ?_⟩, ?_⟩, ?_⟩
    · exact owe_move rfl (wants_all rfl) (Or.inl rfl) (opnd_slot 1 0 rfl (by kernel_rfl)) rfl
    · exact owe_len rfl (wants_all rfl) rfl (opnd_op 0 11 (by kernel_rfl) rfl) ar_len Tryd.underlying23 rfl
    · exact owe_move rfl (wants_all rfl) (Or.inl rfl) (opnd_const _) rfl
  intro B3 a3 W3 S3
  replace S3 : Sta w 26 [(5, (.row 36 2 n (CE 2 (List.replicate n (Is (.agg #[.bool false, .slice none 0 0]))))))] [(11, (Ar 2 n φs)), (12, (Is (.int .i64 (n : Nat)))), (13, (Is (.int .i64 0))), (4, (Is (.slice none 0 0))), (0, (Ar 2 n φs)), (1, (Fn1 φs ψs))] B3 a3 W3 := S3
  refine wp_block ?_
  refine wp_loop_ghost (fun (k : Nat) a W => (k ≤ n) ∧ ∃ Bq, Sta w 26 [(5, (.row 36 2 n (CE 2 ((ψs.map (· w.heap.size)).take k ++ List.replicate (n - k) (Is (.agg #[.bool false, .slice none 0 0]))))))] [(11, (Ar 2 n φs)), (12, (Is (.int .i64 (n : Nat)))), (13, (Is (.int .i64 k))), (1, (Fn1 φs ψs))] Bq a W) (fun (k : Nat) => n - k) ?_ 0 ⟨Nat.zero_le _, B3, S3.sub [0] [0, 1, 2, 5]⟩
  rintro k a4 W4 ⟨hcond, B4, S4⟩
  by_cases hlt : k < n
  · obtain ⟨φ, hφ⟩ : ∃ φ, φs[k]? = some φ := ⟨φs[k]'(by omega), List.getElem?_eq_getElem _⟩
    obtain ⟨ψ, hψk⟩ : ∃ ψ, ψs[k]? = some ψ := ⟨ψs[k]'(by omega), List.getElem?_eq_getElem _⟩
    have hset := set_next (z := Is (.agg #[.bool false, .slice none 0 0])) (xs := (ψs.map (· w.heap.size))) (n := n) (by simp [hl']) (map_get' (· w.heap.size) hψk)
    refine wp_stmt_seq [.val (Is (.bool true))] [.inr 0] [.inl 0, .inr 0, .inr 1, .inr 2, .inr 3] follows S4 rfl (by kernel_rfl) ?_ ?_
    · refine ⟨trivial, ?_⟩
      · exact owe_bin rfl (wants_all rfl) rfl (opnd_slot 2 13 rfl (by kernel_rfl)) (opnd_slot 1 12 rfl (by kernel_rfl)) rfl (fun ρ w h1 h2 => by exact run_lss_int_t ρ _ _ _ w _ _ (by omega) h1 h2)
    intro B5 a5 W5 S5
    replace S5 : Sta w 26 [(5, (.row 36 2 n (CE 2 ((ψs.map (· w.heap.size)).take k ++ List.replicate (n - k) (Is (.agg #[.bool false, .slice none 0 0]))))))] [(14, (Is (.bool true))), (11, (Ar 2 n φs)), (12, (Is (.int .i64 (n : Nat)))), (13, (Is (.int .i64 k))), (1, (Fn1 φs ψs))] B5 a5 W5 := S5
    refine wp_seq ?_
    refine wp_cond_true (S5.bool 0 14 rfl) ?_
    refine wp_skip ?_
    refine thenN ?_
    refine wp_seq ?_
    refine wp_block ?_
    refine wp_stmt_seq [.val (Is (.int .i64 k)),
      .val (AtE 2 φ),
      .val φ,
      .new (.box 36 (Is (.agg #[.bool false, .slice none 0 0]))),
      .val (Is (.int .i64 k)),
      .put (.inr 3) (.box 36 φ)] [.inr 0, .inl 3] [.inl 4, .inr 0, .inr 1, .inr 2, .inr 3, .inr 4] follows S5 rfl (by kernel_rfl) ?_ ?_
    · refine ⟨⟨⟨⟨⟨⟨trivial, ?_⟩, ?_⟩, ?_⟩, ?_⟩, ?_⟩, ?_⟩
      · exact owe_move rfl (wants_all rfl) (Or.inl rfl) (opnd_slot 3 13 rfl (by kernel_rfl)) rfl
      · exact owe_aindex rfl (wants_all rfl) rfl idx_ints (opnd_slot 1 11 rfl (by kernel_rfl)) (opnd_slot 3 13 rfl (by kernel_rfl)) hφ rfl
      · exact owe_aload rfl (wants_all rfl) rfl ldr_int (by decide) (cel_shp (by decide) (hS k φ hφ)) (opnd_op 1 16 (by kernel_rfl) rfl) rfl
      · exact owe_new rfl (wants_all rfl) rfl rfl (fun ρ w => alloc_int ρ _ w)
      · exact owe_move rfl (wants_all rfl) (Or.inr rfl) (opnd_op 0 15 (by kernel_rfl) rfl) rfl
      · exact owe_put 3 rfl (wants_all rfl) rfl (by kernel_rfl) rfl (opnd_op 2 17 (by kernel_rfl) rfl) (stores_of strct_int shp_z0 (hS k φ hφ)) rfl
    intro B6 a6 W6 S6
    replace S6 : Sta w 26 [(5, (.row 36 2 n (CE 2 ((ψs.map (· w.heap.size)).take k ++ List.replicate (n - k) (Is (.agg #[.bool false, .slice none 0 0])))))), (7, (.box 36 φ))] [(6, (Is (.int .i64 k))), (14, (Is (.bool true))), (11, (Ar 2 n φs)), (12, (Is (.int .i64 (n : Nat)))), (13, (Is (.int .i64 k))), (1, (Fn1 φs ψs))] B6 a6 W6 := S6
    refine wp_stmt [.val (Is (a6.eval (.tmp 5))),
      .val (Is (.int .i64 k)),
      .val (Fn1 φs ψs),
      .val φ,
      .val (ψ w.heap.size),
      .val (REt a6 5 (2 * k)),
      .put (.inl 5) (.row 36 2 n (CE 2 ((ψs.map (· w.heap.size)).take (k + 1) ++ List.replicate (n - (k + 1)) (Is (.agg #[.bool false, .slice none 0 0])))))] [.inr 0, .inr 1] [.inr 1, .inr 2, .inr 3, .inr 4, .inr 5] follows S6 rfl (by kernel_rfl) ?_ ?_
    · refine ⟨⟨⟨⟨⟨⟨⟨trivial, ?_⟩, ?_⟩, ?_⟩, ?_⟩, ?_⟩, ?_⟩, ?_⟩
      · exact owe_same rfl (wants_all rfl) (Or.inl rfl) (by kernel_rfl) rfl
      · exact owe_move rfl (wants_all rfl) (Or.inl rfl) (opnd_slot 0 6 rfl (by kernel_rfl)) rfl
      · exact owe_move rfl (wants_all rfl) (Or.inl rfl) (opnd_slot 5 1 rfl (by kernel_rfl)) rfl
      · exact owe_load rfl (wants_all rfl) rfl (k := 1) rfl (by kernel_rfl) (loads_of strct_int (hS k φ hφ)) rfl
      · exact owe_callv1 k rfl (wants_all rfl) rfl (opnd_op 2 20 (by kernel_rfl) rfl) hφ hψk (opnd_op 3 21 (by kernel_rfl) rfl) (hψ k ψ hψk).1 rfl
      · exact owe_rindexE rfl (wants_all rfl) rfl idx_ints (opnd_op 0 18 (by kernel_rfl) rfl) (k := 0) rfl (by kernel_rfl) (opnd_op 1 19 (by kernel_rfl) rfl) hlt rfl
      · exact owe_rstoreE rfl (wants_all rfl) rfl sto_int (by decide) (opnd_op 5 23 (by kernel_rfl) rfl) (k := 0) rfl (by kernel_rfl) (opnd_op 4 22 (by kernel_rfl) rfl) (cel_shp (by decide) ((hψ k ψ hψk).2 _)) hlt (by rw [hset]; rfl)
    intro B7 a7 W7 S7
    replace S7 : Sta w 26 [(5, (.row 36 2 n (CE 2 ((ψs.map (· w.heap.size)).take (k + 1) ++ List.replicate (n - (k + 1)) (Is (.agg #[.bool false, .slice none 0 0])))))), (7, (.box 36 φ))] [(14, (Is (.bool true))), (11, (Ar 2 n φs)), (12, (Is (.int .i64 (n : Nat)))), (13, (Is (.int .i64 k))), (1, (Fn1 φs ψs))] B7 a7 W7 := S7
    refine inBlkN ?_
    refine thenN ?_
    refine wp_stmt [.val (Is (.int .i64 (k + 1 : Nat))),
      .val (Is (.int .i64 (k + 1 : Nat)))] [.inr 0, .inr 1] [.inl 1, .inr 0, .inr 1, .inr 2, .inr 4] follows S7 rfl (by kernel_rfl) ?_ ?_
    · refine ⟨⟨trivial, ?_⟩, ?_⟩
      · exact owe_bin rfl (wants_all rfl) rfl (opnd_slot 3 13 rfl (by kernel_rfl)) (opnd_const _) rfl (fun ρ w h1 h2 => by exact run_add_int ρ _ _ _ w _ _ _ ⟨by omega, by omega, by omega⟩ h1 h2)
      · exact owe_move rfl (wants_all rfl) (Or.inl rfl) (opnd_op 0 24 (by kernel_rfl) rfl) rfl
    intro B8 a8 W8 S8
    replace S8 : Sta w 26 [(5, (.row 36 2 n (CE 2 ((ψs.map (· w.heap.size)).take (k + 1) ++ List.replicate (n - (k + 1)) (Is (.agg #[.bool false, .slice none 0 0])))))), (7, (.box 36 φ))] [(13, (Is (.int .i64 (k + 1 : Nat)))), (14, (Is (.bool true))), (11, (Ar 2 n φs)), (12, (Is (.int .i64 (n : Nat)))), (1, (Fn1 φs ψs))] B8 a8 W8 := S8
    refine thenN ?_
    exact ⟨k + 1, ⟨by omega, B8, S8.sub [0] [2, 3, 0, 4]⟩, by omega⟩
  · have hend := fill_end (z := Is (.agg #[.bool false, .slice none 0 0])) (xs := (ψs.map (· w.heap.size))) (n := n) (k := k) (by simp [hl']) (by omega)
    refine wp_stmt_seq [.val (Is (.bool false))] [.inr 0] [.inl 0, .inr 0, .inr 1, .inr 2, .inr 3] follows S4 rfl (by kernel_rfl) ?_ ?_
    · refine ⟨trivial, ?_⟩
      · exact owe_bin rfl (wants_all rfl) rfl (opnd_slot 2 13 rfl (by kernel_rfl)) (opnd_slot 1 12 rfl (by kernel_rfl)) rfl (fun ρ w h1 h2 => by exact run_lss_int_f ρ _ _ _ w _ _ (by omega) h1 h2)
    intro B5 a5 W5 S5
    replace S5 : Sta w 26 [(5, (.row 36 2 n (CE 2 ((ψs.map (· w.heap.size)).take k ++ List.replicate (n - k) (Is (.agg #[.bool false, .slice none 0 0]))))))] [(14, (Is (.bool false))), (11, (Ar 2 n φs)), (12, (Is (.int .i64 (n : Nat)))), (13, (Is (.int .i64 k))), (1, (Fn1 φs ψs))] B5 a5 W5 := S5
    refine wp_seq ?_
    refine wp_cond_false (S5.bool 0 14 rfl) ?_
    refine wp_exit ?_
    refine thenX ?_
    refine thenX ?_
    refine inBlkE ?_
    refine thenN ?_
    obtain ⟨B6, S6⟩ : ∃ Bq, Sta w 26 [] [(5, ((LF 2 n ψs) w.heap.size)), (14, (Is (.bool false))), (11, (Ar 2 n φs)), (12, (Is (.int .i64 (n : Nat)))), (13, (Is (.int .i64 k))), (1, (Fn1 φs ψs))] Bq a5 W5 := ⟨_, S5.freeze 0 rfl (by simp) (fun v w' xs ho hc => row_lf (by decide) v w' xs ho (by rw [hend] at hc; exact hc))⟩
    obtain ⟨a6, W6, e1, e2⟩ : ∃ a W, a5 = a ∧ W5 = W := ⟨_, _, rfl, rfl⟩
    rw [e1, e2] at S6 ⊢
    clear e1 e2
    refine wp_stmt_seq [.val ((LF 2 n ψs) w.heap.size),
      .val ((LF 2 n ψs) w.heap.size)] [] [.inl 1, .inr 0, .inr 1, .inr 2, .inr 3, .inr 4, .inr 5] follows S6 rfl (by kernel_rfl) ?_ ?_
    · refine ⟨⟨trivial, ?_⟩, ?_⟩
      · exact owe_move rfl (wants_all rfl) (Or.inl rfl) (opnd_slot 0 5 rfl (by kernel_rfl)) rfl
      · exact owe_move rfl (wants_all rfl) (Or.inr rfl) (opnd_op 0 25 (by kernel_rfl) rfl) rfl
    intro B7 a7 W7 S7
    replace S7 : Sta w 26 [] [(4, ((LF 2 n ψs) w.heap.size)), (5, ((LF 2 n ψs) w.heap.size)), (14, (Is (.bool false))), (11, (Ar 2 n φs)), (12, (Is (.int .i64 (n : Nat)))), (13, (Is (.int .i64 k))), (1, (Fn1 φs ψs))] B7 a7 W7 := S7
    refine wp_ret ?_
    exact end_one S7 rfl (res_tmp S7 0 4 rfl)

end Go.Proofs.YtdhjgekbocnnkaaDoor

/-
  Vectors: mat and the document.
-/
namespace Go.Proofs.YtdhjgekbocnnkaaDoor
open Go Go.RowKit Nt
set_option linter.unusedSimpArgs false
set_option linter.unusedVariables false
set_option maxRecDepth 20000


/-! Sums of lists. -/
def sumZ : List Int → Int
  | [] => 0
  | x :: r => x + sumZ r
theorem sumZ_append (a b : List Int) : sumZ (a ++ b) = sumZ a + sumZ b := by
  induction a with
  | nil => simp [sumZ]
  | cons x r ih => simp only [List.cons_append, sumZ, ih]; omega
theorem sumZ_take {l : List Int} {k : Nat} {x : Int} (h : l[k]? = some x) : sumZ (l.take (k + 1)) = sumZ (l.take k) + x := by
  rw [List.take_add_one, h, sumZ_append]
  simp [sumZ]
theorem sumZ_len {l : List Int} {m : Nat} (h : Dl l m) (k : Nat) : (digs (sumZ (l.take k)).natAbs).length ≤ m + k := by
  induction k with
  | zero => rw [show sumZ (l.take 0) = 0 from rfl, show (digs (0 : Int).natAbs) = [] from digs_zero]; exact Nat.zero_le _
  | succ k ih =>
    cases hx : l[k]? with
    | none =>
      rw [List.take_add_one, hx]
      simp only [Option.toList, List.append_nil]
      omega
    | some x =>
      rw [sumZ_take hx]
      exact dl_add ih (Nat.le_trans (h k x hx) (Nat.le_add_right _ _))
def zEl (z : Int) : El := ⟨ng z, none, (digs z.natAbs).length, 0, digs z.natAbs⟩
theorem zEl_z (z : Int) : (zEl z).z = z := by simp only [zEl, El.z]; rw [val_digs, sg_sign]
theorem tot_zs (zs : List Int) (k : Nat) : tot (zs.map zEl) k = sumZ (zs.take k) := by
  induction k with
  | zero => rfl
  | succ k ih =>
    show tot _ k + _ = _
    rw [ih, List.getElem?_map]
    cases hx : zs[k]? with
    | none =>
      rw [List.take_add_one, hx]
      simp
    | some x =>
      rw [sumZ_take hx]
      simp [zEl_z]
theorem vn_lc {n lo : Nat} {zs : List Int} : ∀ v w, VN n zs lo v w → Lc (zs.map zEl) n v w := by
  rintro v w ⟨⟨p, c, rfl, hl, ⟨h1, h2, h3⟩, ha⟩, _⟩
  have hl' : zs.length = n := by simpa using hl
  have each : ∀ i, ∃ f : El, ∀ z, zs[i]? = some z → (∃ b o, p = some ⟨b, o, none⟩ ∧ w.cell? ⟨b, o + 2 * i, none⟩ = some (.bool f.s) ∧ w.cell? ⟨b, o + 2 * i + 1, none⟩ = some (.slice f.p f.n f.c) ∧ Sl w f.p f.n f.c f.xs) ∧ f.s = (zEl z).s ∧ f.n = (zEl z).n ∧ f.xs = (zEl z).xs := fun i => by
    cases hz : zs[i]? with
    | none => exact ⟨default, fun z h => by cases h⟩
    | some z =>
      obtain ⟨b, o, u, e1, e2, e3, r, c', e4, e5, e6⟩ := ha i (ZN z lo) (by rw [List.getElem?_map, List.getElem?_map, hz]; rfl)
      refine ⟨⟨ng z, r, (digs z.natAbs).length, c', digs z.natAbs⟩, fun z' h' => ?_⟩
      cases h'
      subst e4
      exact ⟨⟨b, o, e1, e2 0 _ rfl, e2 1 _ rfl, e5⟩, rfl, rfl, rfl⟩
  obtain ⟨F, hch⟩ : ∃ F : Nat → El, ∀ (i : Nat) (z : Int), zs[i]? = some z → (∃ b o, p = some ⟨b, o, none⟩ ∧ w.cell? ⟨b, o + 2 * i, none⟩ = some (.bool (F i).s) ∧ w.cell? ⟨b, o + 2 * i + 1, none⟩ = some (.slice (F i).p (F i).n (F i).c) ∧ Sl w (F i).p (F i).n (F i).c (F i).xs) ∧ (F i).s = (zEl z).s ∧ (F i).n = (zEl z).n ∧ (F i).xs = (zEl z).xs := ⟨fun i => Classical.choose (each i), fun i => Classical.choose_spec (each i)⟩
  refine ⟨p, c, (List.range n).map F, rfl, ⟨by simp, h1, h2, h3, fun i e he => ?_⟩, by simp [hl'], fun i f e hf he => ?_⟩
  · obtain ⟨j, hj, rfl⟩ := map_get he
    have hi : i < n := by simpa using (List.getElem?_eq_some_iff.1 hj).1
    rw [List.getElem?_range hi] at hj
    cases hj
    exact (hch i _ (List.getElem?_eq_getElem (by omega : i < zs.length))).1
  · obtain ⟨j, hj, rfl⟩ := map_get hf
    have hi : i < n := by simpa using (List.getElem?_eq_some_iff.1 hj).1
    rw [List.getElem?_range hi] at hj
    cases hj
    obtain ⟨z, hz, rfl⟩ := map_get he
    exact (hch i z hz).2
/-! Functions that go over lists. -/
theorem zip_get {α β γ : Type} {f : α → β → γ} {l : List α} {m : List β} {i : Nat} {y : γ} (h : (List.zipWith f l m)[i]? = some y) : ∃ a b, l[i]? = some a ∧ m[i]? = some b ∧ y = f a b := by
  rw [List.getElem?_zipWith] at h
  cases ha : l[i]? with
  | none => simp [ha] at h
  | some a =>
    cases hb : m[i]? with
    | none => simp [ha, hb] at h
    | some b => simp [ha, hb] at h; exact ⟨a, b, rfl, rfl, h.symm⟩
theorem zip_get' {α β γ : Type} (f : α → β → γ) {l : List α} {m : List β} {i : Nat} {a : α} {b : β} (h : l[i]? = some a) (h' : m[i]? = some b) : (List.zipWith f l m)[i]? = some (f a b) := by rw [List.getElem?_zipWith, h, h']
theorem fn1_map {f k : Nat} {G : Int → Nat → Pr} {As : List Int} (hcf : ∀ args w, (callFunc f args).run Tryd.prog w = .ok (.enter f args) w) (C : ∀ a w u, Zv a k u w → Calls Tryd.prog f #[u] w (Gives (G a) w)) : ∀ v w, Is (.func (.func f) #[] #[]) v w → Fn1 (As.map (fun z => Zv z k)) (As.map G) v w :=
  is_fn1 hcf (fun i φ ψ h1 h2 w u hu => by
    obtain ⟨a, ha, rfl⟩ := map_get h1
    obtain ⟨b, hb, rfl⟩ := map_get h2
    rw [ha] at hb
    cases hb
    exact C a w u hu.now)
theorem fn2_zip {f k k' : Nat} {G : Int → Int → Nat → Pr} {As Bs : List Int} (hcf : ∀ args w, (callFunc f args).run Tryd.prog w = .ok (.enter f args) w) (C : ∀ a b w u v, Zv a k u w → Zv b k' v w → Calls Tryd.prog f #[u, v] w (Gives (G a b) w)) : ∀ v w, Is (.func (.func f) #[] #[]) v w → Fn2 (As.map (fun z => Zv z k)) (Bs.map (fun z => Zv z k')) (List.zipWith G As Bs) v w :=
  is_fn2 hcf (fun i φ φ' ψ h1 h2 h3 w u v hu hv => by
    obtain ⟨a, ha, rfl⟩ := map_get h1
    obtain ⟨b, hb, rfl⟩ := map_get h2
    obtain ⟨a', b', ha', hb', rfl⟩ := zip_get h3
    rw [ha] at ha'
    rw [hb] at hb'
    cases ha'
    cases hb'
    exact C a b w u v hu.now hv.now)
theorem h_each {n k : Nat} {As : List Int} {F : Int → Int} (hn : n ≤ 1048576) : ∀ w u f, Hs w (Vv n As k) u → Hs w (Fn1 (As.map (fun z => Zv z k)) (As.map (fun a => ZN (F a)))) f → Calls Tryd.prog 40 #[u, f] w (Gives (VN n (As.map F)) w) := fun w u f hu hf => by
  obtain ⟨p, c, _, hl, _⟩ := hu.now
  have hl' : As.length = n := by simpa using hl
  rw [show (VN n (As.map F)) = LF 2 n (As.map (fun a => ZN (F a))) from by simp only [VN, List.map_map]; rfl]
  exact each_w w u f n _ _ (by simp [hl']) (by simp [hl']) hu hf (fun i φ h => by obtain ⟨a, _, rfl⟩ := map_get h; exact shp_zv) (fun i ψ h => by obtain ⟨a, _, rfl⟩ := map_get h; exact ⟨fresh_zn _, fun lo => shp_zn⟩) hn
theorem zip_map {α β γ δ : Type} (f : α → β → γ) (g : γ → δ) : ∀ (l : List α) (m : List β), (List.zipWith f l m).map g = List.zipWith (fun a b => g (f a b)) l m
  | [], _ => by simp
  | _ :: _, [] => by simp
  | a :: l, b :: m => by simp [zip_map f g l m]
theorem dl_zip {As Bs : List Int} {k k' : Nat} (h : Dl As k) (h' : Dl Bs k') : Dl (List.zipWith (· * ·) As Bs) (k + k') := fun i z hz => by
  obtain ⟨a, b, ha, hb, rfl⟩ := zip_get hz
  exact dl_mul (h i a ha) (h' i b hb)
theorem zv_dl {A : Int} {k : Nat} {u : Value} {w : World} (h : Zv A k u w) : (digs A.natAbs).length ≤ k := by
  obtain ⟨s, p, n, c, xs, rfl, hs, rfl, hn⟩ := h
  exact Nat.le_trans (sg_dl hs) hn
theorem vv_dl {n k : Nat} {zs : List Int} {u : Value} {w : World} (h : Vv n zs k u w) : Dl zs k := fun i z hz => by
  obtain ⟨p, c, _, _, _, ha⟩ := h
  obtain ⟨b, o, x, _, _, _, hx⟩ := ha i _ (map_get' (fun z => Zv z k) hz)
  exact zv_dl hx
theorem vv_len {n k : Nat} {zs : List Int} {u : Value} {w : World} (h : Vv n zs k u w) : zs.length = n := by
  obtain ⟨p, c, _, hl, _⟩ := h
  simpa using hl
theorem lf_cast {sz n : Nat} {ψs ψs' : List (Nat → Pr)} (h : ψs = ψs') : LF sz n ψs = LF sz n ψs' := by rw [h]

set_option maxHeartbeats 400000 in
theorem zsum_w (w : World) (u : Value) (es : List El) (n : Nat) (h : Lc es n u w) (hn : n ≤ 1048576) (hB : ∀ (i : Nat) (e : El), es[i]? = some e → e.n ≤ 1073741824) :
    Calls Tryd.prog 54 #[u] w (Gives (ZN (tot es n)) w) := by
  refine calls_sta (sl := [(0, (Lc es n))]) Tryd.func54 rfl Tryd.ntmps54 (by simp) (args_cons rfl (lc_has h) args_nil) ?_
  intro a0 S0
  refine wp_stmt_seq [.new (.box 36 (Is (.agg #[.bool false, .slice none 0 0])))] [.inl 0] [.inr 0] follows S0 rfl (by kernel_rfl) ?_ ?_
  · refine ⟨trivial, ?_⟩
    · exact owe_new rfl (wants_all rfl) rfl rfl (fun ρ w => alloc_int ρ _ w)
  intro B1 a1 W1 S1
  replace S1 : Sta w 5 [(2, (.box 36 (Is (.agg #[.bool false, .slice none 0 0]))))] [(0, (Lc es n))] B1 a1 W1 := S1
  refine wp_stmt_seq [.val (Lc es n),
      .val ((ZN (tot es n)) w.heap.size),
      .put (.inl 2) (.box 36 ((ZN (tot es n)) w.heap.size))] [.inr 0] [] follows S1 rfl (by kernel_rfl) ?_ ?_
  · refine ⟨⟨⟨trivial, ?_⟩, ?_⟩, ?_⟩
    · exact owe_move rfl (wants_all rfl) (Or.inl rfl) (opnd_slot 0 0 rfl (by kernel_rfl)) rfl
    · exact owe_call1 rfl (wants_all rfl) rfl (opnd_op 0 3 (by kernel_rfl) rfl) (fresh_zn _) rfl (fun args w => by go_simp) (g_ztotal hn hB)
    · exact owe_set rfl (wants_all rfl) rfl (k := 0) rfl (by kernel_rfl) (opnd_op 1 4 (by kernel_rfl) rfl) (stores_of strct_int shp_z0 shp_zn) rfl
  intro B2 a2 W2 S2
  replace S2 : Sta w 5 [(2, (.box 36 ((ZN (tot es n)) w.heap.size)))] [] B2 a2 W2 := S2
  refine wp_ret ?_
  exact end_one S2 rfl (res_cell S2 0 2 rfl strct_int shp_zn)

theorem h_zsum {n lo : Nat} {zs : List Int} (hn : n ≤ 1048576) (hl : zs.length = n) (hd : Dl zs 1073741824) : ∀ w u, Hs w (VN n zs lo) u → Calls Tryd.prog 54 #[u] w (Gives (ZN (sumZ zs)) w) := fun w u h => by
  have := zsum_w w u (zs.map zEl) n (vn_lc _ _ h.now) hn (fun i e he => by obtain ⟨z, hz, rfl⟩ := map_get he; exact hd i z hz)
  rw [tot_zs, List.take_of_length_le (by omega)] at this
  exact this

/-! What is answered where lengths are not alike. -/
def errE (n m : Nat) : Int := if n = m then 0 else 8
def dotE (n m : Nat) (As Bs : List Int) : Int := if n = m then sumZ (List.zipWith (· * ·) As Bs) else 0
def lenE (n m : Nat) : Nat := if n = m then n else 0
def zipE (F : Int → Int → Int) (n m : Nat) (As Bs : List Int) : List Int := if n = m then List.zipWith F As Bs else []
theorem give_two {φ φ' ψ ψ' : Nat → Pr} {f : FuncId} {args : Array Value} {w : World} (h : Calls Tryd.prog f args w (Gives (TWO φ ψ) w)) (h1 : ∀ lo v w, φ lo v w → φ' lo v w) (h2 : ∀ lo v w, ψ lo v w → ψ' lo v w) : Calls Tryd.prog f args w (Gives (TWO φ' ψ') w) := h.mono (by
  rintro e w' ⟨v, rfl, hb, x, y, rfl, hx, hy⟩
  exact ⟨_, rfl, hb, x, y, rfl, h1 _ _ _ hx, h2 _ _ _ hy⟩)
theorem zero_zn' : ∀ lo v w, IS (.agg #[.bool false, .slice none 0 0]) lo v w → ZN 0 lo v w := fun lo v w e => ⟨none, 0, e, Sl.none w, fun b o e => by cases e⟩
theorem nil_vn' : ∀ lo v w, IS (.slice none 0 0) lo v w → VN 0 [] lo v w := fun lo v w e => nil_vn v w e
theorem dotE_len {n m k k' : Nat} {As Bs : List Int} (h : Dl As k) (h' : Dl Bs k') (hA : As.length = n) : (digs (dotE n m As Bs).natAbs).length ≤ k + k' + n := by
  unfold dotE
  split
  · have := sumZ_len (dl_zip h h') n
    rwa [List.take_of_length_le (by simp; omega)] at this
  · rw [show (digs (0 : Int).natAbs) = [] from digs_zero]; exact Nat.zero_le _
theorem zipE_len {F : Int → Int → Int} {n m : Nat} {As Bs : List Int} (hA : As.length = n) (hB : Bs.length = m) : (zipE F n m As Bs).length = lenE n m := by
  unfold zipE lenE
  split
  · simp [hA, hB]; omega
  · rfl

set_option maxHeartbeats 400000 in
theorem times1_w (w : World) (u v : Value) (k k' : Nat) (K A : Int) (h : Hs w (Zv A k) u) (h' : Hs w (AtE 2 (Zv K k')) v) (hs : k' + k ≤ 1073741824) :
    Calls Tryd.prog 41 #[u, v] w (Gives (ZN (K * A)) w) := by
  refine calls_sta (sl := [(0, (Zv A k)), (1, (AtE 2 (Zv K k')))]) Tryd.func41 rfl Tryd.ntmps41 (by simp) (args_cons rfl (h) (args_cons rfl (h') args_nil)) ?_
  intro a0 S0
  refine wp_stmt_seq [.new (.box 36 (Zv A k)),
      .new (.box 36 (Is (.agg #[.bool false, .slice none 0 0])))] [.inl 0, .inl 1] [.inr 1] follows S0 rfl (by kernel_rfl) ?_ ?_
  · refine ⟨⟨trivial, ?_⟩, ?_⟩
    · exact owe_box rfl (wants_all rfl) rfl (opnd_slot 0 0 rfl (by kernel_rfl)) rfl (fun ρ w h => box_int shp_zv ρ _ _ w h)
    · exact owe_new rfl (wants_all rfl) rfl rfl (fun ρ w => alloc_int ρ _ w)
  intro B1 a1 W1 S1
  replace S1 : Sta w 7 [(2, (.box 36 (Zv A k))), (3, (.box 36 (Is (.agg #[.bool false, .slice none 0 0]))))] [(1, (AtE 2 (Zv K k')))] B1 a1 W1 := S1
  refine wp_stmt_seq [.val (Zv K k'),
      .val (Zv A k),
      .val ((ZN (K * A)) w.heap.size),
      .put (.inl 3) (.box 36 ((ZN (K * A)) w.heap.size))] [.inr 0, .inr 1] [] follows S1 rfl (by kernel_rfl) ?_ ?_
  · refine ⟨⟨⟨⟨trivial, ?_⟩, ?_⟩, ?_⟩, ?_⟩
    · exact owe_aload rfl (wants_all rfl) rfl ldr_int (by decide) (cel_shp (by decide) shp_zv) (opnd_slot 0 1 rfl (by kernel_rfl)) rfl
    · exact owe_load rfl (wants_all rfl) rfl (k := 0) rfl (by kernel_rfl) (loads_of strct_int shp_zv) rfl
    · exact owe_callh2 rfl (wants_all rfl) rfl (opnd_op 0 4 (by kernel_rfl) rfl) (opnd_op 1 5 (by kernel_rfl) rfl) (fresh_zn _) rfl (fun args w => by go_simp) (fun w u0 u1 h0 h1 => (g_zmul (by omega)) w u0 u1 ((fun _ _ h => h) _ _ h0.now) ((fun _ _ h => h) _ _ h1.now))
    · exact owe_set rfl (wants_all rfl) rfl (k := 1) rfl (by kernel_rfl) (opnd_op 2 6 (by kernel_rfl) rfl) (stores_of strct_int shp_z0 shp_zn) rfl
  intro B2 a2 W2 S2
  replace S2 : Sta w 7 [(2, (.box 36 (Zv A k))), (3, (.box 36 ((ZN (K * A)) w.heap.size)))] [] B2 a2 W2 := S2
  refine wp_ret ?_
  exact end_one S2 rfl (res_cell S2 1 3 rfl strct_int shp_zn)

set_option maxHeartbeats 400000 in
theorem times_w (w : World) (u v : Value) (n k k' : Nat) (K : Int) (As : List Int) (h : Hs w (Zv K k') u) (h' : Hs w (Vv n As k) v) (hn : n ≤ 1048576) (hs : k' + k ≤ 1073741824) :
    Calls Tryd.prog 19 #[u, v] w (Gives (VN n (As.map (fun a => K * a))) w) := by
  refine calls_sta (sl := [(0, (Zv K k')), (1, (Vv n As k))]) Tryd.func19 rfl Tryd.ntmps19 (by simp) (args_cons rfl (h) (args_cons rfl (h') args_nil)) ?_
  intro a0 S0
  refine wp_stmt_seq [.new (.box 36 (Zv K k')),
      .val (Is (.slice none 0 0))] [.inl 0] [.inl 1, .inr 1] follows S0 rfl (by kernel_rfl) ?_ ?_
  · refine ⟨⟨trivial, ?_⟩, ?_⟩
    · exact owe_box rfl (wants_all rfl) rfl (opnd_slot 0 0 rfl (by kernel_rfl)) rfl (fun ρ w h => box_int shp_zv ρ _ _ w h)
    · exact owe_move rfl (wants_all rfl) (Or.inr rfl) (opnd_const _) rfl
  intro B1 a1 W1 S1
  replace S1 : Sta w 8 [(2, (.box 36 (Zv K k')))] [(4, (Is (.slice none 0 0))), (1, (Vv n As k))] B1 a1 W1 := S1
  obtain ⟨B2, S2⟩ : ∃ Bq, Sta w 8 [] [(2, (AtE 2 (Zv K k'))), (4, (Is (.slice none 0 0))), (1, (Vv n As k))] Bq a1 W1 := ⟨_, S1.freezeBox 0 rfl (by simp) (cel_shp (by decide) shp_zv)⟩
  obtain ⟨a2, W2, e1, e2⟩ : ∃ a W, a1 = a ∧ W1 = W := ⟨_, _, rfl, rfl⟩
  rw [e1, e2] at S2 ⊢
  clear e1 e2
  refine wp_stmt_seq [.val (Vv n As k),
      .val (Fn1 (As.map (fun z => Zv z k)) (As.map (fun a => ZN (K * a)))),
      .val ((VN n (As.map (fun a => K * a))) w.heap.size),
      .val ((VN n (As.map (fun a => K * a))) w.heap.size)] [] [.inl 3] follows S2 rfl (by kernel_rfl) ?_ ?_
  · refine ⟨⟨⟨⟨trivial, ?_⟩, ?_⟩, ?_⟩, ?_⟩
    · exact owe_move rfl (wants_all rfl) (Or.inl rfl) (opnd_slot 2 1 rfl (by kernel_rfl)) rfl
    · exact owe_mkfn1 rfl (wants_all rfl) rfl (opnd_slot 0 2 rfl (by kernel_rfl)) rfl (fun args w => by go_simp) (fun i φ ψ h1 h2 w u c hu hc => by obtain ⟨a, ha, rfl⟩ := map_get h1; obtain ⟨b, hb, rfl⟩ := map_get h2; rw [ha] at hb; cases hb; exact times1_w w u c k k' K a hu hc hs)
    · exact owe_callh2 rfl (wants_all rfl) rfl (opnd_op 0 5 (by kernel_rfl) rfl) (opnd_op 1 6 (by kernel_rfl) rfl) fresh_vn rfl (fun args w => by go_simp) (h_each (F := fun a => K * a) hn)
    · exact owe_move rfl (wants_all rfl) (Or.inr rfl) (opnd_op 2 7 (by kernel_rfl) rfl) rfl
  intro B3 a3 W3 S3
  replace S3 : Sta w 8 [] [(4, ((VN n (As.map (fun a => K * a))) w.heap.size))] B3 a3 W3 := S3
  refine wp_ret ?_
  exact end_one S3 rfl (res_tmp S3 0 4 rfl)

theorem zip_neg : ∀ (As Bs : List Int), List.zipWith (· + ·) As (Bs.map (fun a => -1 * a)) = List.zipWith (· - ·) As Bs
  | [], _ => by simp
  | _ :: _, [] => by simp
  | a :: As, b :: Bs => by
    simp only [List.map_cons, List.zipWith_cons_cons, zip_neg As Bs]
    congr 1
    omega
theorem zipE_neg {n m : Nat} {As Bs : List Int} : zipE (· + ·) n m As (Bs.map (fun a => -1 * a)) = zipE (· - ·) n m As Bs := by unfold zipE; rw [zip_neg]
theorem dl_neg {Bs : List Int} {k : Nat} (h : Dl Bs k) : Dl (Bs.map (fun a => -1 * a)) k := fun i z hz => by
  obtain ⟨b, hb, rfl⟩ := map_get hz
  rw [show (-1 * b).natAbs = b.natAbs from by omega]
  exact h i b hb

end Go.Proofs.YtdhjgekbocnnkaaDoor

/-
  The laws' own: copies of lists, and whether two lists are the same.
-/
namespace Go.Proofs.YtdhjgekbocnnkaaDoor
open Go Go.RowKit Nt
set_option linter.unusedSimpArgs false
set_option linter.unusedVariables false
set_option maxRecDepth 20000

set_option maxHeartbeats 400000 in
theorem owns_w (w : World) (u : Value) (n : Nat) (es : List El) (h : Hs w (Vx n es) u) (hn : n ≤ 1048576) (hC : ∀ (i : Nat) e, es[i]? = some e → e.c ≤ 35184372087808) :
    Calls Tryd.prog 10 #[u] w (Gives (VO n es) w) := by
  have hA : es.length = n := by obtain ⟨p, c, _, hl, _⟩ := h.now; simpa using hl
  refine calls_sta (sl := [(0, (Vx n es))]) Tryd.func10 rfl Tryd.ntmps10 (by simp) (args_cons rfl (h) args_nil) ?_
  intro a0 S0
  refine wp_stmt_seq [.val (Is (.slice none 0 0))] [] [.inl 0, .inr 0] follows S0 rfl (by kernel_rfl) ?_ ?_
  · refine ⟨trivial, ?_⟩
    · exact owe_move rfl (wants_all rfl) (Or.inr rfl) (opnd_const _) rfl
  intro B1 a1 W1 S1
  replace S1 : Sta w 20 [] [(2, (Is (.slice none 0 0))), (0, (Vx n es))] B1 a1 W1 := S1
  refine wp_stmt_seq [.new (.row 36 2 0 (CE 2 (((es.map El.zo).map (· w.heap.size)).take 0)))] [.inl 0] [.inr 0, .inr 1] follows S1 rfl (by kernel_rfl) ?_ ?_
  · refine ⟨trivial, ?_⟩
    · exact owe_nilrow rfl (wants_all rfl) rfl rfl ce_nil
  intro B2 a2 W2 S2
  replace S2 : Sta w 20 [(3, (.row 36 2 0 (CE 2 (((es.map El.zo).map (· w.heap.size)).take 0))))] [(2, (Is (.slice none 0 0))), (0, (Vx n es))] B2 a2 W2 := S2
  refine wp_seq ?_
  refine wp_stmt_seq [.val (Is (.int .i64 0))] [.inr 0] [.inl 0, .inr 0, .inr 1] follows S2 rfl (by kernel_rfl) ?_ ?_
  · refine ⟨trivial, ?_⟩
    · exact owe_move rfl (wants_all rfl) (Or.inr rfl) (opnd_const _) rfl
  intro B3 a3 W3 S3
  replace S3 : Sta w 20 [(3, (.row 36 2 0 (CE 2 (((es.map El.zo).map (· w.heap.size)).take 0))))] [(4, (Is (.int .i64 0))), (2, (Is (.slice none 0 0))), (0, (Vx n es))] B3 a3 W3 := S3
  refine wp_block ?_
  refine wp_loop_ghost (fun (k0 : Nat) a W => (k0 ≤ n) ∧ ∃ Bq, Sta w 20 [(3, (.row 36 2 k0 (CE 2 (((es.map El.zo).map (· w.heap.size)).take k0))))] [(4, (Is (.int .i64 k0))), (0, (Vx n es))] Bq a W) (fun (k0 : Nat) => n - k0) ?_ 0 ⟨Nat.zero_le _, B3, S3.sub [0] [0, 2]⟩
  rintro k0 a4 W4 ⟨hcond, B4, S4⟩
  by_cases hlt : k0 < n
  · obtain ⟨e, he⟩ : ∃ e, es[k0]? = some e := ⟨es[k0]'(by omega), List.getElem?_eq_getElem _⟩
    have hec := hC k0 e he
    have htk : ((es.map El.zo).map (· w.heap.size)).take (k0 + 1) = ((es.map El.zo).map (· w.heap.size)).take k0 ++ [ZO e.s e.n e.xs w.heap.size] := by rw [List.take_add_one, map_get' _ (map_get' _ he)]; rfl
    refine wp_seq ?_
    refine wp_stmt_seq [.val (Is (.int .i64 k0)),
      .val (Vx n es),
      .val (Is (.int .i64 (n : Nat))),
      .val (Is (.bool true))] [.inr 0] [.inl 3, .inr 0, .inr 1] follows S4 rfl (by kernel_rfl) ?_ ?_
    · refine ⟨⟨⟨⟨trivial, ?_⟩, ?_⟩, ?_⟩, ?_⟩
      · exact owe_move rfl (wants_all rfl) (Or.inl rfl) (opnd_slot 0 4 rfl (by kernel_rfl)) rfl
      · exact owe_move rfl (wants_all rfl) (Or.inl rfl) (opnd_slot 1 0 rfl (by kernel_rfl)) rfl
      · exact owe_len rfl (wants_all rfl) rfl (opnd_op 1 6 (by kernel_rfl) rfl) ar_len Tryd.underlying23 rfl
      · exact owe_bin rfl (wants_all rfl) rfl (opnd_op 0 5 (by kernel_rfl) rfl) (opnd_op 2 7 (by kernel_rfl) rfl) rfl (fun ρ w h1 h2 => by exact run_lss_int_t ρ _ _ _ w _ _ (by omega) h1 h2)
    intro B5 a5 W5 S5
    replace S5 : Sta w 20 [(3, (.row 36 2 k0 (CE 2 (((es.map El.zo).map (· w.heap.size)).take k0))))] [(8, (Is (.bool true))), (4, (Is (.int .i64 k0))), (0, (Vx n es))] B5 a5 W5 := S5
    refine wp_cond_true (S5.bool 0 8 rfl) ?_
    refine wp_skip ?_
    refine thenN ?_
    refine wp_seq ?_
    refine wp_block ?_
    refine wp_stmt [.val (Is (a5.eval (.tmp 3))),
      .val (Vx n es),
      .val (Is (.int .i64 k0)),
      .val (AtE 2 (Zx e.s e.p e.n e.c e.xs)),
      .val (Zx e.s e.p e.n e.c e.xs),
      .val ((ZO e.s e.n e.xs) w.heap.size),
      .val (Sng 36 2 ((ZO e.s e.n e.xs) w.heap.size) w.heap.size),
      .mov 3 (.row 36 2 (k0 + 1) (CE 2 (((es.map El.zo).map (· w.heap.size)).take (k0 + 1)))),
      .ref 7] [.inl 8] [.inr 0, .inr 1, .inr 2] follows S5 rfl (by kernel_rfl) ?_ ?_
    · refine ⟨⟨⟨⟨⟨⟨⟨⟨⟨trivial, ?_⟩, ?_⟩, ?_⟩, ?_⟩, ?_⟩, ?_⟩, ?_⟩, ?_⟩, ?_⟩
      · exact owe_same rfl (wants_all rfl) (Or.inl rfl) (by kernel_rfl) rfl
      · exact owe_move rfl (wants_all rfl) (Or.inl rfl) (opnd_slot 2 0 rfl (by kernel_rfl)) rfl
      · exact owe_move rfl (wants_all rfl) (Or.inl rfl) (opnd_slot 1 4 rfl (by kernel_rfl)) rfl
      · exact owe_aindex rfl (wants_all rfl) rfl idx_ints (opnd_op 1 12 (by kernel_rfl) rfl) (opnd_op 2 13 (by kernel_rfl) rfl) (map_get' El.pr he) rfl
      · exact owe_aload rfl (wants_all rfl) rfl ldr_int (by decide) (cel_shp (by decide) shp_zx) (opnd_op 3 14 (by kernel_rfl) rfl) rfl
      · exact owe_call1 rfl (wants_all rfl) rfl (opnd_op 4 15 (by kernel_rfl) rfl) (fresh_zo _ _ _) rfl (fun args w => by go_simp) (g_own hec)
      · exact owe_b1 rfl (wants_all rfl) rfl bld_int (opnd_op 5 16 (by kernel_rfl) rfl) (cel_shp (by decide) shp_zo) rfl
      · exact owe_append rfl (wants_all rfl) rfl (opnd_op 0 11 (by kernel_rfl) rfl) (k := 0) rfl (by kernel_rfl) ((opnd_op 6 17 (by kernel_rfl) rfl).imp b1_src) einf_int Tryd.underlying23 (by decide) ⟨by unfold maxLen; omega, by omega⟩ rfl (fun xs ys w h1 h2 => by rw [htk]; exact ce_append xs ys w h1 h2)
      · exact owe_ref 7 rfl (wants_all rfl) (Or.inr rfl) (by kernel_rfl) rfl rfl
    intro B6 a6 W6 S6
    replace S6 : Sta w 20 [(3, (.row 36 2 (k0 + 1) (CE 2 (((es.map El.zo).map (· w.heap.size)).take (k0 + 1)))))] [(8, (Is (.bool true))), (4, (Is (.int .i64 k0))), (0, (Vx n es))] B6 a6 W6 := S6
    refine inBlkN ?_
    refine thenN ?_
    refine wp_stmt [.val (Is (.int .i64 k0)),
      .val (Is (.int .i64 (k0 + 1 : Nat))),
      .val (Is (.int .i64 (k0 + 1 : Nat)))] [.inr 0] [.inl 2, .inr 0, .inr 2] follows S6 rfl (by kernel_rfl) ?_ ?_
    · refine ⟨⟨⟨trivial, ?_⟩, ?_⟩, ?_⟩
      · exact owe_move rfl (wants_all rfl) (Or.inl rfl) (opnd_slot 1 4 rfl (by kernel_rfl)) rfl
      · exact owe_bin rfl (wants_all rfl) rfl (opnd_op 0 9 (by kernel_rfl) rfl) (opnd_const _) rfl (fun ρ w h1 h2 => by exact run_add_int ρ _ _ _ w _ _ _ ⟨by omega, by omega, by omega⟩ h1 h2)
      · exact owe_move rfl (wants_all rfl) (Or.inr rfl) (opnd_op 1 10 (by kernel_rfl) rfl) rfl
    intro B7 a7 W7 S7
    replace S7 : Sta w 20 [(3, (.row 36 2 (k0 + 1) (CE 2 (((es.map El.zo).map (· w.heap.size)).take (k0 + 1)))))] [(4, (Is (.int .i64 (k0 + 1 : Nat)))), (8, (Is (.bool true))), (0, (Vx n es))] B7 a7 W7 := S7
    refine thenN ?_
    exact ⟨k0 + 1, ⟨by omega, B7, S7.sub [0] [0, 2]⟩, by omega⟩
  · have ek : n = k0 := by omega
    have hend : ((es.map El.zo).map (· w.heap.size)).take k0 = (es.map El.zo).map (· w.heap.size) := List.take_of_length_le (by simp; omega)
    refine wp_seq ?_
    refine wp_stmt_seq [.val (Is (.int .i64 k0)),
      .val (Vx n es),
      .val (Is (.int .i64 (n : Nat))),
      .val (Is (.bool false))] [.inr 0] [.inl 3, .inr 0, .inr 1] follows S4 rfl (by kernel_rfl) ?_ ?_
    · refine ⟨⟨⟨⟨trivial, ?_⟩, ?_⟩, ?_⟩, ?_⟩
      · exact owe_move rfl (wants_all rfl) (Or.inl rfl) (opnd_slot 0 4 rfl (by kernel_rfl)) rfl
      · exact owe_move rfl (wants_all rfl) (Or.inl rfl) (opnd_slot 1 0 rfl (by kernel_rfl)) rfl
      · exact owe_len rfl (wants_all rfl) rfl (opnd_op 1 6 (by kernel_rfl) rfl) ar_len Tryd.underlying23 rfl
      · exact owe_bin rfl (wants_all rfl) rfl (opnd_op 0 5 (by kernel_rfl) rfl) (opnd_op 2 7 (by kernel_rfl) rfl) rfl (fun ρ w h1 h2 => by exact run_lss_int_f ρ _ _ _ w _ _ (by omega) h1 h2)
    intro B5 a5 W5 S5
    replace S5 : Sta w 20 [(3, (.row 36 2 k0 (CE 2 (((es.map El.zo).map (· w.heap.size)).take k0))))] [(8, (Is (.bool false))), (4, (Is (.int .i64 k0))), (0, (Vx n es))] B5 a5 W5 := S5
    refine wp_cond_false (S5.bool 0 8 rfl) ?_
    refine wp_exit ?_
    refine thenX ?_
    refine thenX ?_
    refine inBlkE ?_
    refine thenN ?_
    obtain ⟨B6, S6⟩ : ∃ Bq, Sta w 20 [] [(3, ((VO n es) w.heap.size)), (8, (Is (.bool false))), (4, (Is (.int .i64 k0))), (0, (Vx n es))] Bq a5 W5 := ⟨_, S5.freeze 0 rfl (by simp) (fun v w' xs ho hc => by rw [hend] at hc; rw [ek]; exact row_lf (by decide) v w' xs ho hc)⟩
    obtain ⟨a6, W6, e1, e2⟩ : ∃ a W, a5 = a ∧ W5 = W := ⟨_, _, rfl, rfl⟩
    rw [e1, e2] at S6 ⊢
    clear e1 e2
    refine wp_stmt_seq [.val ((VO n es) w.heap.size),
      .val ((VO n es) w.heap.size)] [] [.inl 1, .inr 0, .inr 1, .inr 2, .inr 3] follows S6 rfl (by kernel_rfl) ?_ ?_
    · refine ⟨⟨trivial, ?_⟩, ?_⟩
      · exact owe_move rfl (wants_all rfl) (Or.inl rfl) (opnd_slot 0 3 rfl (by kernel_rfl)) rfl
      · exact owe_move rfl (wants_all rfl) (Or.inr rfl) (opnd_op 0 19 (by kernel_rfl) rfl) rfl
    intro B7 a7 W7 S7
    replace S7 : Sta w 20 [] [(2, ((VO n es) w.heap.size)), (3, ((VO n es) w.heap.size)), (8, (Is (.bool false))), (4, (Is (.int .i64 k0))), (0, (Vx n es))] B7 a7 W7 := S7
    refine wp_ret ?_
    exact end_one S7 rfl (res_tmp S7 0 2 rfl)

end Go.Proofs.YtdhjgekbocnnkaaDoor
