import Derived.Test.YtdhjgekbocnnkaaDoorSetJ
import Derived.Test.YtdhjgekbocnnkaaDoorSetV
import Derived.Test.YtdhjgekbocnnkaaDoorMArgs
import Derived.Test.YtdhjgekbocnnkaaDoorCopyE
import Derived.Test.YtdhjgekbocnnkaaDoorMul1
/-
  mat.cut: rows of a list, one behind the other.
-/
namespace Go.Proofs.YtdhjgekbocnnkaaDoor
open Go Go.RowKit Nt
set_option linter.unusedSimpArgs false
set_option linter.unusedVariables false
set_option maxRecDepth 20000


theorem args_nil' {args : Array Value} {w : World} {B : Nat → Prop} : ∀ x ∈ ([] : List (Tmp × Pr)), ∃ v, args[x.1]? = some v ∧ Has B w x.2 v := fun _ h => nomatch h
theorem args_cons' {args : Array Value} {w : World} {B : Nat → Prop} {t : Tmp} {φ : Pr} {v : Value} {sl : List (Tmp × Pr)} (h : args[t]? = some v) (hv : Has B w φ v) (r : ∀ x ∈ sl, ∃ v, args[x.1]? = some v ∧ Has B w x.2 v) : ∀ x ∈ ((t, φ) :: sl), ∃ v, args[x.1]? = some v ∧ Has B w x.2 v := fun x hx => by
  rcases List.mem_cons.1 hx with rfl | hx
  · exact ⟨v, h, hv⟩
  · exact r x hx
theorem row_lfX {sz n lo E : Nat} {ψs : List (Nat → Pr)} {S : Nat → Prop} {v : Value} (hx : ∀ b, vblock v = some b → ¬ b = lo) (hz : 0 < sz) : ∀ v' w ys, v' = v → World.ownsRow w lo E sz v' n ys → CE sz (ψs.map (· (lo + 1))) ys w → LF sz n ψs (lo + 1) v' w := by
  rintro v' w ys rfl hown hce
  refine ⟨row_ar hz v' w ys hown hce, fun b o n c e => ?_⟩
  rcases hown.2 with ⟨rfl, h0⟩ | ⟨g, cap, cur, rfl, hg0, hg, hnc, hcm, hcs, htk⟩
  · cases e
  · cases e
    have := hx b rfl
    omega

set_option maxHeartbeats 400000 in
theorem eachcut_w (w w0 : World) (u : Value) (n bb g o N C0 : Nat) (ss : List Nat) (hw0 : w0 = cutW w bb) (hl : ss.length = n) (h : Has (fun b => b = bb) w (Ar 1 n (ss.map (fun s : Nat => Is (.int .i64 (s : Nat))))) u) (hbb : w.heap[bb]? = some (.cells #[stV g o N C0 ss 0] 23 (0, 0))) (hN : ss.sum ≤ N) (hC : N ≤ C0) (hm : C0 ≤ maxLen) (hn : n ≤ 1048576) :
    Calls Tryd.prog 81 #[u, .func (.func 82) #[] #[.pointer (some ⟨bb, 0, none⟩)]] w fun e w' => ∃ v, e = .returned v ∧ Ev (fun b => b = bb) w w' ∧ LF 1 n ((List.range n).map (fun i => IS (rowV g o C0 ss i))) (bb + 1) v w' := by
  subst hw0
  have hlt0 : bb < w.heap.size := (Array.getElem?_eq_some_iff.1 hbb).1
  refine calls_ghost 1000000 (w0 := cutW w bb) (S0 := fun b => b = bb) (e := 23) (χ := fun C w => C bb = [stV g o N C0 ss 0]) (C := fun _ => [stV g o N C0 ss 0]) (sl := [(0, (Ar 1 n (ss.map (fun s : Nat => Is (.int .i64 (s : Nat)))))), (1, (Is (.func (.func 82) #[] #[.pointer (some ⟨bb, 0, none⟩)])))]) Tryd.func81 rfl Tryd.ntmps81 (by simp) (below_cut (Nat.le_of_lt hlt0)) (fun b hb => ⟨by rw [cutW_size (Nat.le_of_lt hlt0), hb]; exact Nat.le_refl _, by rw [hb]; exact hbb⟩) (fun _ _ => rfl) (args_cons' rfl h (args_cons' rfl (fun _ _ => rfl) args_nil')) ?_
  intro a0 S0
  replace S0 : Sta (cutW w bb) 26 [(1000000, (.own (fun b => b = bb) 23 (fun C w => C bb = [stV g o N C0 ss 0])))] [(0, (Ar 1 n (ss.map (fun s : Nat => Is (.int .i64 (s : Nat)))))), (1, (Is (.func (.func 82) #[] #[.pointer (some ⟨bb, 0, none⟩)]))), (0, (Keep (fun b => b = bb) w))] (fun b => b = bb) a0 w := S0
  obtain ⟨B0, hB0⟩ : ∃ B, B = (fun b => b = bb) := ⟨_, rfl⟩
  refine wp_stmt_seq [.val (Is (.slice none 0 0))] [.inr 0] [.inl 0, .inr 0, .inr 1, .inr 2] follows S0 rfl (by kernel_rfl) ?_ ?_
  · refine ⟨trivial, ?_⟩
    · exact owe_move rfl (wants_all rfl) (Or.inr rfl) (opnd_const _) rfl
  intro B1 a1 W1 S1
  replace S1 : Sta (cutW w bb) 26 [(1000000, (.own (fun b => b = bb) 23 (fun C w => C bb = [stV g o N C0 ss 0])))] [(4, (Is (.slice none 0 0))), (0, (Ar 1 n (ss.map (fun s : Nat => Is (.int .i64 (s : Nat)))))), (1, (Is (.func (.func 82) #[] #[.pointer (some ⟨bb, 0, none⟩)]))), (0, (Keep (fun b => b = bb) w))] B1 a1 W1 := S1
  refine wp_stmt_seq [.val (Ar 1 n (ss.map (fun s : Nat => Is (.int .i64 (s : Nat))))),
      .val (Is (.int .i64 (n : Nat))),
      .new (.row 23 1 n (CE 1 (List.replicate n (Is (.slice none 0 0))))),
      .ref 2] [.inr 0, .inl 3] [.inr 0, .inr 1, .inr 2, .inr 3] follows S1 rfl (by kernel_rfl) ?_ ?_
  · refine ⟨⟨⟨⟨trivial, ?_⟩, ?_⟩, ?_⟩, ?_⟩
    · exact owe_move rfl (wants_all rfl) (Or.inl rfl) (opnd_slot 1 0 rfl (by kernel_rfl)) rfl
    · exact owe_len rfl (wants_all rfl) rfl (opnd_op 0 8 (by kernel_rfl) rfl) ar_len Tryd.underlying98 rfl
    · exact owe_makeE rfl (wants_all rfl) rfl Tryd.underlying22 infoRow (celv_one rfl) (by decide) (opnd_op 1 9 (by kernel_rfl) rfl) ⟨by omega, by unfold maxLen; omega⟩ rfl
    · exact owe_ref 2 rfl (wants_all rfl) (Or.inr rfl) (by kernel_rfl) rfl rfl
  intro B2 a2 W2 S2
  replace S2 : Sta (cutW w bb) 26 [(1000000, (.own (fun b => b = bb) 23 (fun C w => C bb = [stV g o N C0 ss 0]))), (5, (.row 23 1 n (CE 1 (List.replicate n (Is (.slice none 0 0))))))] [(4, (Is (.slice none 0 0))), (0, (Ar 1 n (ss.map (fun s : Nat => Is (.int .i64 (s : Nat)))))), (1, (Is (.func (.func 82) #[] #[.pointer (some ⟨bb, 0, none⟩)]))), (0, (Keep (fun b => b = bb) w))] B2 a2 W2 := S2
  refine wp_seq ?_
  refine wp_stmt_seq [.val (Ar 1 n (ss.map (fun s : Nat => Is (.int .i64 (s : Nat))))),
      .val (Is (.int .i64 (n : Nat))),
      .val (Is (.int .i64 0))] [.inr 0, .inr 1] [.inl 0, .inl 1, .inl 2, .inr 0, .inr 1, .inr 2, .inr 3] follows S2 rfl (by kernel_rfl) ?_ ?_
  · refine ⟨⟨⟨trivial, ?_⟩, ?_⟩, ?_⟩
    · exact owe_move rfl (wants_all rfl) (Or.inl rfl) (opnd_slot 1 0 rfl (by kernel_rfl)) rfl
    · exact owe_len rfl (wants_all rfl) rfl (opnd_op 0 11 (by kernel_rfl) rfl) ar_len Tryd.underlying98 rfl
    · exact owe_move rfl (wants_all rfl) (Or.inl rfl) (opnd_const _) rfl
  intro B3 a3 W3 S3
  replace S3 : Sta (cutW w bb) 26 [(1000000, (.own (fun b => b = bb) 23 (fun C w => C bb = [stV g o N C0 ss 0]))), (5, (.row 23 1 n (CE 1 (List.replicate n (Is (.slice none 0 0))))))] [(11, (Ar 1 n (ss.map (fun s : Nat => Is (.int .i64 (s : Nat)))))), (12, (Is (.int .i64 (n : Nat)))), (13, (Is (.int .i64 0))), (4, (Is (.slice none 0 0))), (0, (Ar 1 n (ss.map (fun s : Nat => Is (.int .i64 (s : Nat)))))), (1, (Is (.func (.func 82) #[] #[.pointer (some ⟨bb, 0, none⟩)]))), (0, (Keep (fun b => b = bb) w))] B3 a3 W3 := S3
  refine wp_block ?_
  refine wp_loop_ghost (fun (k : Nat) a W => (k ≤ n) ∧ ∃ Bq, Sta (cutW w bb) 26 [(1000000, (.own (fun b => b = bb) 23 (fun C w => C bb = [stV g o N C0 ss k]))), (5, (.row 23 1 n (CE 1 (((List.range n).map (fun i => Is (rowV g o C0 ss i))).take k ++ List.replicate (n - k) (Is (.slice none 0 0))))))] [(11, (Ar 1 n (ss.map (fun s : Nat => Is (.int .i64 (s : Nat)))))), (12, (Is (.int .i64 (n : Nat)))), (13, (Is (.int .i64 k))), (0, (Ar 1 n (ss.map (fun s : Nat => Is (.int .i64 (s : Nat)))))), (1, (Is (.func (.func 82) #[] #[.pointer (some ⟨bb, 0, none⟩)]))), (0, (Keep (fun b => b = bb) w))] Bq a W) (fun (k : Nat) => n - k) ?_ 0 ⟨Nat.zero_le _, B3, S3.sub [0, 1] [0, 1, 2, 4, 5, 6]⟩
  rintro k a4 W4 ⟨hcond, B4, S4⟩
  by_cases hlt : k < n
  · obtain ⟨s, hs⟩ : ∃ s, ss[k]? = some s := ⟨ss[k]'(by omega), List.getElem?_eq_getElem _⟩
    have hr : ((List.range n).map (fun i => Is (rowV g o C0 ss i)))[k]? = some (Is (rowV g o C0 ss k)) := map_get' _ (List.getElem?_range hlt)
    have hset := set_next (z := Is (.slice none 0 0)) (xs := ((List.range n).map (fun i => Is (rowV g o C0 ss i)))) (n := n) (by simp) hr
    refine wp_stmt_seq [.val (Is (.bool true))] [.inr 0, .inr 1] [.inl 0, .inr 0, .inr 1, .inr 2, .inr 3, .inr 4, .inr 5] follows S4 rfl (by kernel_rfl) ?_ ?_
    · refine ⟨trivial, ?_⟩
      · exact owe_bin rfl (wants_all rfl) rfl (opnd_slot 2 13 rfl (by kernel_rfl)) (opnd_slot 1 12 rfl (by kernel_rfl)) rfl (fun ρ w h1 h2 => by exact run_lss_int_t ρ _ _ _ w _ _ (by omega) h1 h2)
    intro B5 a5 W5 S5
    replace S5 : Sta (cutW w bb) 26 [(1000000, (.own (fun b => b = bb) 23 (fun C w => C bb = [stV g o N C0 ss k]))), (5, (.row 23 1 n (CE 1 (((List.range n).map (fun i => Is (rowV g o C0 ss i))).take k ++ List.replicate (n - k) (Is (.slice none 0 0))))))] [(14, (Is (.bool true))), (11, (Ar 1 n (ss.map (fun s : Nat => Is (.int .i64 (s : Nat)))))), (12, (Is (.int .i64 (n : Nat)))), (13, (Is (.int .i64 k))), (0, (Ar 1 n (ss.map (fun s : Nat => Is (.int .i64 (s : Nat)))))), (1, (Is (.func (.func 82) #[] #[.pointer (some ⟨bb, 0, none⟩)]))), (0, (Keep (fun b => b = bb) w))] B5 a5 W5 := S5
    refine wp_seq ?_
    refine wp_cond_true (S5.bool 0 14 rfl) ?_
    refine wp_skip ?_
    refine thenN ?_
    refine wp_seq ?_
    refine wp_block ?_
    refine wp_stmt_seq [.val (Is (.int .i64 k)),
      .val (AtE 1 (Is (.int .i64 (s : Nat)))),
      .val (Is (.int .i64 (s : Nat))),
      .val (Is (.int .i64 k)),
      .val (Is (.int .i64 (s : Nat)))] [.inr 0, .inr 1] [.inl 3, .inl 4, .inr 0, .inr 1, .inr 2, .inr 3, .inr 4, .inr 5, .inr 6] follows S5 rfl (by kernel_rfl) ?_ ?_
    · refine ⟨⟨⟨⟨⟨trivial, ?_⟩, ?_⟩, ?_⟩, ?_⟩, ?_⟩
      · exact owe_move rfl (wants_all rfl) (Or.inl rfl) (opnd_slot 3 13 rfl (by kernel_rfl)) rfl
      · exact owe_aindex rfl (wants_all rfl) rfl idx_is (opnd_slot 1 11 rfl (by kernel_rfl)) (opnd_slot 3 13 rfl (by kernel_rfl)) (map_get' _ hs) rfl
      · exact owe_aload rfl (wants_all rfl) rfl ldr_i1 (by decide) (cel_is rfl) (opnd_op 1 16 (by kernel_rfl) rfl) rfl
      · exact owe_move rfl (wants_all rfl) (Or.inr rfl) (opnd_op 0 15 (by kernel_rfl) rfl) rfl
      · exact owe_move rfl (wants_all rfl) (Or.inr rfl) (opnd_op 2 17 (by kernel_rfl) rfl) rfl
    intro B6 a6 W6 S6
    replace S6 : Sta (cutW w bb) 26 [(1000000, (.own (fun b => b = bb) 23 (fun C w => C bb = [stV g o N C0 ss k]))), (5, (.row 23 1 n (CE 1 (((List.range n).map (fun i => Is (rowV g o C0 ss i))).take k ++ List.replicate (n - k) (Is (.slice none 0 0))))))] [(6, (Is (.int .i64 k))), (7, (Is (.int .i64 (s : Nat)))), (14, (Is (.bool true))), (11, (Ar 1 n (ss.map (fun s : Nat => Is (.int .i64 (s : Nat)))))), (12, (Is (.int .i64 (n : Nat)))), (13, (Is (.int .i64 k))), (0, (Ar 1 n (ss.map (fun s : Nat => Is (.int .i64 (s : Nat)))))), (1, (Is (.func (.func 82) #[] #[.pointer (some ⟨bb, 0, none⟩)]))), (0, (Keep (fun b => b = bb) w))] B6 a6 W6 := S6
    refine wp_stmt [.val (Is (a6.eval (.tmp 5))),
      .val (Is (.int .i64 k)),
      .val (Is (.func (.func 82) #[] #[.pointer (some ⟨bb, 0, none⟩)])),
      .val (Is (.int .i64 (s : Nat))),
      .turn (.inl 1000000) (.own (fun b => b = bb) 23 (fun C w => C bb = [stV g o N C0 ss (k + 1)])) (Is (rowV g o C0 ss k)),
      .val (REt a6 5 (1 * k)),
      .put (.inl 5) (.row 23 1 n (CE 1 (((List.range n).map (fun i => Is (rowV g o C0 ss i))).take (k + 1) ++ List.replicate (n - (k + 1)) (Is (.slice none 0 0)))))] [.inr 0, .inr 1] [.inr 2, .inr 3, .inr 4, .inr 5, .inr 6, .inr 7, .inr 8] follows S6 rfl (by kernel_rfl) ?_ ?_
    · refine ⟨⟨⟨⟨⟨⟨⟨trivial, ?_⟩, ?_⟩, ?_⟩, ?_⟩, ?_⟩, ?_⟩, ?_⟩
      · exact owe_same rfl (wants_all rfl) (Or.inl rfl) (by kernel_rfl) rfl
      · exact owe_move rfl (wants_all rfl) (Or.inl rfl) (opnd_slot 0 6 rfl (by kernel_rfl)) rfl
      · exact owe_move rfl (wants_all rfl) (Or.inl rfl) (opnd_slot 7 1 rfl (by kernel_rfl)) rfl
      · exact owe_move rfl (wants_all rfl) (Or.inl rfl) (opnd_slot 1 7 rfl (by kernel_rfl)) rfl
      · exact owe_callCut rfl (wants_all rfl) rfl (kk := 0) rfl (by kernel_rfl) (opnd_op 2 20 (by kernel_rfl) rfl) (opnd_op 3 21 (by kernel_rfl) rfl) hs hN hC hm rfl
      · exact owe_rindexE rfl (wants_all rfl) rfl idx_rows (opnd_op 0 18 (by kernel_rfl) rfl) (k := 1) rfl (by kernel_rfl) (opnd_op 1 19 (by kernel_rfl) rfl) hlt rfl
      · exact owe_rstoreE rfl (wants_all rfl) rfl sto_row1 (by decide) (opnd_op 5 23 (by kernel_rfl) rfl) (k := 1) rfl (by kernel_rfl) (opnd_turn 4 22 (by kernel_rfl) rfl) (cel_is rfl) hlt (by rw [hset]; rfl)
    intro B7 a7 W7 S7
    replace S7 : Sta (cutW w bb) 26 [(1000000, (.own (fun b => b = bb) 23 (fun C w => C bb = [stV g o N C0 ss (k + 1)]))), (5, (.row 23 1 n (CE 1 (((List.range n).map (fun i => Is (rowV g o C0 ss i))).take (k + 1) ++ List.replicate (n - (k + 1)) (Is (.slice none 0 0))))))] [(14, (Is (.bool true))), (11, (Ar 1 n (ss.map (fun s : Nat => Is (.int .i64 (s : Nat)))))), (12, (Is (.int .i64 (n : Nat)))), (13, (Is (.int .i64 k))), (0, (Ar 1 n (ss.map (fun s : Nat => Is (.int .i64 (s : Nat)))))), (1, (Is (.func (.func 82) #[] #[.pointer (some ⟨bb, 0, none⟩)]))), (0, (Keep (fun b => b = bb) w))] B7 a7 W7 := S7
    refine inBlkN ?_
    refine thenN ?_
    refine wp_stmt [.val (Is (.int .i64 (k + 1 : Nat))),
      .val (Is (.int .i64 (k + 1 : Nat)))] [.inr 0, .inr 1] [.inl 1, .inr 0, .inr 1, .inr 2, .inr 4, .inr 5, .inr 6] follows S7 rfl (by kernel_rfl) ?_ ?_
    · refine ⟨⟨trivial, ?_⟩, ?_⟩
      · exact owe_bin rfl (wants_all rfl) rfl (opnd_slot 3 13 rfl (by kernel_rfl)) (opnd_const _) rfl (fun ρ w h1 h2 => by exact run_add_int ρ _ _ _ w _ _ _ ⟨by omega, by omega, by omega⟩ h1 h2)
      · exact owe_move rfl (wants_all rfl) (Or.inl rfl) (opnd_op 0 24 (by kernel_rfl) rfl) rfl
    intro B8 a8 W8 S8
    replace S8 : Sta (cutW w bb) 26 [(1000000, (.own (fun b => b = bb) 23 (fun C w => C bb = [stV g o N C0 ss (k + 1)]))), (5, (.row 23 1 n (CE 1 (((List.range n).map (fun i => Is (rowV g o C0 ss i))).take (k + 1) ++ List.replicate (n - (k + 1)) (Is (.slice none 0 0))))))] [(13, (Is (.int .i64 (k + 1 : Nat)))), (14, (Is (.bool true))), (11, (Ar 1 n (ss.map (fun s : Nat => Is (.int .i64 (s : Nat)))))), (12, (Is (.int .i64 (n : Nat)))), (0, (Ar 1 n (ss.map (fun s : Nat => Is (.int .i64 (s : Nat)))))), (1, (Is (.func (.func 82) #[] #[.pointer (some ⟨bb, 0, none⟩)]))), (0, (Keep (fun b => b = bb) w))] B8 a8 W8 := S8
    refine thenN ?_
    exact ⟨k + 1, ⟨by omega, B8, S8.sub [0, 1] [2, 3, 0, 4, 5, 6]⟩, by omega⟩
  · have hend := fill_end (z := Is (.slice none 0 0)) (xs := ((List.range n).map (fun i => Is (rowV g o C0 ss i)))) (n := n) (k := k) (by simp) (by omega)
    refine wp_stmt_seq [.val (Is (.bool false))] [.inr 0, .inr 1] [.inl 0, .inr 0, .inr 1, .inr 2, .inr 3, .inr 4, .inr 5] follows S4 rfl (by kernel_rfl) ?_ ?_
    · refine ⟨trivial, ?_⟩
      · exact owe_bin rfl (wants_all rfl) rfl (opnd_slot 2 13 rfl (by kernel_rfl)) (opnd_slot 1 12 rfl (by kernel_rfl)) rfl (fun ρ w h1 h2 => by exact run_lss_int_f ρ _ _ _ w _ _ (by omega) h1 h2)
    intro B5 a5 W5 S5
    replace S5 : Sta (cutW w bb) 26 [(1000000, (.own (fun b => b = bb) 23 (fun C w => C bb = [stV g o N C0 ss k]))), (5, (.row 23 1 n (CE 1 (((List.range n).map (fun i => Is (rowV g o C0 ss i))).take k ++ List.replicate (n - k) (Is (.slice none 0 0))))))] [(14, (Is (.bool false))), (11, (Ar 1 n (ss.map (fun s : Nat => Is (.int .i64 (s : Nat)))))), (12, (Is (.int .i64 (n : Nat)))), (13, (Is (.int .i64 k))), (0, (Ar 1 n (ss.map (fun s : Nat => Is (.int .i64 (s : Nat)))))), (1, (Is (.func (.func 82) #[] #[.pointer (some ⟨bb, 0, none⟩)]))), (0, (Keep (fun b => b = bb) w))] B5 a5 W5 := S5
    refine wp_seq ?_
    refine wp_cond_false (S5.bool 0 14 rfl) ?_
    refine wp_exit ?_
    refine thenX ?_
    refine thenX ?_
    refine inBlkE ?_
    refine thenN ?_
    obtain ⟨B6, S6⟩ : ∃ Bq, Sta (cutW w bb) 26 [(1000000, (.own (fun b => b = bb) 23 (fun C w => C bb = [stV g o N C0 ss k])))] [(5, (LF 1 n ((List.range n).map (fun i => IS (rowV g o C0 ss i))) (bb + 1))), (14, (Is (.bool false))), (11, (Ar 1 n (ss.map (fun s : Nat => Is (.int .i64 (s : Nat)))))), (12, (Is (.int .i64 (n : Nat)))), (13, (Is (.int .i64 k))), (0, (Ar 1 n (ss.map (fun s : Nat => Is (.int .i64 (s : Nat)))))), (1, (Is (.func (.func 82) #[] #[.pointer (some ⟨bb, 0, none⟩)]))), (0, (Keep (fun b => b = bb) w))] Bq a5 W5 := ⟨_, S5.freezeX 1 rfl (by simp) 0 rfl (by decide) (fun v w' xs ho hx hc => by rw [hend] at hc; rw [cutW_size (Nat.le_of_lt hlt0)] at ho; exact row_lfX (S := fun _ => True) hx (ψs := (List.range n).map (fun i => IS (rowV g o C0 ss i))) (by decide) v w' xs rfl ho (by rw [List.map_map]; exact hc))⟩
    obtain ⟨a6, W6, e1, e2⟩ : ∃ a W, a5 = a ∧ W5 = W := ⟨_, _, rfl, rfl⟩
    rw [e1, e2] at S6 ⊢
    clear e1 e2
    refine wp_stmt_seq [.val (LF 1 n ((List.range n).map (fun i => IS (rowV g o C0 ss i))) (bb + 1)),
      .val (LF 1 n ((List.range n).map (fun i => IS (rowV g o C0 ss i))) (bb + 1))] [.inr 0] [.inl 1, .inr 0, .inr 1, .inr 2, .inr 3, .inr 4, .inr 5, .inr 6, .inr 7] follows S6 rfl (by kernel_rfl) ?_ ?_
    · refine ⟨⟨trivial, ?_⟩, ?_⟩
      · exact owe_move rfl (wants_all rfl) (Or.inl rfl) (opnd_slot 0 5 rfl (by kernel_rfl)) rfl
      · exact owe_move rfl (wants_all rfl) (Or.inr rfl) (opnd_op 0 25 (by kernel_rfl) rfl) rfl
    intro B7 a7 W7 S7
    replace S7 : Sta (cutW w bb) 26 [(1000000, (.own (fun b => b = bb) 23 (fun C w => C bb = [stV g o N C0 ss k])))] [(4, (LF 1 n ((List.range n).map (fun i => IS (rowV g o C0 ss i))) (bb + 1))), (5, (LF 1 n ((List.range n).map (fun i => IS (rowV g o C0 ss i))) (bb + 1))), (14, (Is (.bool false))), (11, (Ar 1 n (ss.map (fun s : Nat => Is (.int .i64 (s : Nat)))))), (12, (Is (.int .i64 (n : Nat)))), (13, (Is (.int .i64 k))), (0, (Ar 1 n (ss.map (fun s : Nat => Is (.int .i64 (s : Nat)))))), (1, (Is (.func (.func 82) #[] #[.pointer (some ⟨bb, 0, none⟩)]))), (0, (Keep (fun b => b = bb) w))] B7 a7 W7 := S7
    refine wp_ret ?_
    exact end_ghost S7 rfl 0 8 rfl rfl (fun v hv he => ⟨v, rfl, he, hv⟩)


theorem stV_zero (g o N C : Nat) (ss : List Nat) : stV g o N C ss 0 = .slice (some ⟨g, o, none⟩) N C := by simp [stV, stAt, ahead]
/-- The rows that are cut off a list. -/
abbrev Rows (n g o C : Nat) (ss : List Nat) : Nat → Pr := LF 1 n ((List.range n).map (fun i => IS (rowV g o C ss i)))
set_option maxHeartbeats 2000000 in
theorem cut_c (w : World) (g o N C n : Nat) (ss : List Nat) (u : Value) (hl : ss.length = n) (hu : Hs w (Ar 1 n (ss.map (fun s : Nat => Is (.int .i64 (s : Nat))))) u) (hN : ss.sum ≤ N) (hC : N ≤ C) (hm : C ≤ maxLen) (hn : n ≤ 1048576) :
    Calls Tryd.prog 71 #[.slice (some ⟨g, o, none⟩) N C, u] w fun e w' => ∃ v, e = .returned v ∧ Below w.heap.size w w' ∧ Rows n g o C ss w.heap.size v w' := by
  obtain ⟨p, c, hue, _⟩ := id hu.now
  subst hue
  have hb0 := below_alloc w (.cells #[.slice (some ⟨g, o, none⟩) N C] 23)
  have EC := hid (eachcut_w (w.alloc (.cells #[.slice (some ⟨g, o, none⟩) N C] 23)) _ (.slice p n c) n w.heap.size g o N C ss rfl hl (fun w' ev => hu w' ⟨ev.os.trans hb0.os, ev.tape.trans hb0.tape, ev.output.trans hb0.output, Nat.le_trans hb0.size ev.size, fun k hk _ => (ev.block k (Nat.lt_of_lt_of_le hk hb0.size) (by omega)).trans (hb0.block k hk)⟩) (by rw [stV_zero]; exact heap_alloc_last _ _) hN hC hm hn)
  obtain ⟨R, hR⟩ : ∃ R : Value → World → Prop, R = fun v w' => Ev (fun b => b = w.heap.size) (w.alloc (.cells #[.slice (some ⟨g, o, none⟩) N C] 23)) w' ∧ Rows n g o C ss (w.heap.size + 1) v w' := ⟨_, rfl⟩
  have EC2 : Hid (Calls Tryd.prog 81 #[.slice p n c, .func (.func 82) #[] #[.pointer (some ⟨w.heap.size, 0, none⟩)]] (w.alloc (.cells #[.slice (some ⟨g, o, none⟩) N C] 23)) fun e w' => ∃ v, e = .returned v ∧ Hid (R v w')) := EC.out.mono (by rintro e w' ⟨v, rfl, h1, h2⟩; exact ⟨v, rfl, by rw [hR]; exact ⟨h1, h2⟩⟩)
  have fin : ∀ v w', R v w' → Below w.heap.size w w' ∧ Rows n g o C ss w.heap.size v w' := fun v w' h => by
    rw [hR] at h
    obtain ⟨ev, hv⟩ := h
    refine ⟨⟨ev.os.trans hb0.os, ev.tape.trans hb0.tape, ev.output.trans hb0.output, Nat.le_trans hb0.size ev.size, fun k hk => (ev.block k (Nat.lt_of_lt_of_le hk hb0.size) (by omega)).trans (hb0.block k hk)⟩, ?_⟩
    exact (fresh_lf (by decide) (fun i ψ h => by obtain ⟨j, _, rfl⟩ := map_get h; exact fresh_is _)).mono _ _ _ _ (Nat.le_succ _) hv
  clear EC hR hu hl hN hC hm hn hb0
  go_enter Tryd.func71, Tryd.ntmps71
  go_wp2_with (go_at_call 81; refine EC2.out.mono ?_; rintro e w1 ⟨v, rfl, hv⟩)
  exact bodyPost_ret (by simp [results, Tryd.results71, go_sem]; try rfl) rfl ⟨v, rfl, fin v _ hv.out⟩

end Go.Proofs.YtdhjgekbocnnkaaDoor

/-
  slices.Repeat of a list of one int.
-/
namespace Go.Proofs.YtdhjgekbocnnkaaDoor
open Go Go.RowKit Nt
set_option linter.unusedSimpArgs false
set_option linter.unusedVariables false
set_option maxRecDepth 20000

set_option maxHeartbeats 400000 in
theorem repeat_y (w : World) (u : Value) (x h : Nat) (hu : Hs w (Ar 1 1 [Is (.int .i64 (x : Nat))]) u) (hh : h ≤ 1048576) (h0 : 0 < h) :
    Calls Tryd.prog 72 #[u, .int .i64 (h : Nat)] w (Gives (LF 1 h (List.replicate h (IS (.int .i64 (x : Nat))))) w) := by
  have hw1 : IntKind.u64.wrap (h : Int) = (h : Int) := by rw [IntKind.wrap_u64]; omega
  have hw2 : IntKind.i64.wrap (h : Int) = (h : Int) := by rw [IntKind.wrap_i64]; omega
  have hq : ¬ ((9223372036854775807 : Int) < (h : Int)) := by omega
  have hq2 : ¬ ((h : Int) > 9223372036854775807) := by omega
  have hcp : [Is (.int .i64 (x : Nat))].take 1 ++ (List.replicate h (Is (.int .i64 0))).drop 1 = List.replicate 1 (Is (.int .i64 (x : Nat))) ++ List.replicate (h - 1) (Is (.int .i64 0)) := by rw [List.drop_replicate]; rfl
  refine calls_sta (sl := [(0, (Ar 1 1 ([Is (.int .i64 (x : Nat))]))), (1, (Is (.int .i64 (h : Nat))))]) Tryd.func72 rfl Tryd.ntmps72 (by simp) (args_cons rfl (hu) (args_cons rfl (is_has _) args_nil)) ?_
  intro a0 S0
  refine wp_stmt_seq [.val (Is (.slice none 0 0))] [] [.inl 0, .inr 0, .inr 1] follows S0 rfl (by kernel_rfl) ?_ ?_
  · refine ⟨trivial, ?_⟩
    · exact owe_move rfl (wants_all rfl) (Or.inr rfl) (opnd_const _) rfl
  intro B1 a1 W1 S1
  replace S1 : Sta w 48 [] [(4, (Is (.slice none 0 0))), (0, (Ar 1 1 ([Is (.int .i64 (x : Nat))]))), (1, (Is (.int .i64 (h : Nat))))] B1 a1 W1 := S1
  refine wp_seq ?_
  refine wp_stmt_seq [.val (Is (.int .i64 (h : Nat))),
      .val (Is (.bool false))] [] [.inl 1, .inr 0, .inr 1, .inr 2] follows S1 rfl (by kernel_rfl) ?_ ?_
  · refine ⟨⟨trivial, ?_⟩, ?_⟩
    · exact owe_move rfl (wants_all rfl) (Or.inl rfl) (opnd_slot 2 1 rfl (by kernel_rfl)) rfl
    · exact owe_bin rfl (wants_all rfl) rfl (opnd_op 0 9 (by kernel_rfl) rfl) (opnd_const _) rfl (fun ρ w h1 h2 => by exact run_lss_int_f ρ _ _ _ w _ _ (by omega) h1 h2)
  intro B2 a2 W2 S2
  replace S2 : Sta w 48 [] [(10, (Is (.bool false))), (4, (Is (.slice none 0 0))), (0, (Ar 1 1 ([Is (.int .i64 (x : Nat))]))), (1, (Is (.int .i64 (h : Nat))))] B2 a2 W2 := S2
  refine wp_cond_false (S2.bool 0 10 rfl) ?_
  refine wp_skip ?_
  refine thenN ?_
  refine wp_stmt_seq [.val (Ar 1 1 ([Is (.int .i64 (x : Nat))])),
      .val (Is (.int .i64 (1 : Nat))),
      .val (Is (.int .u64 1)),
      .val (Is (.int .i64 (h : Nat))),
      .val (Is (.int .u64 (h : Nat))),
      .val ((TWO (IS (.int .u64 0)) (IS (.int .u64 (h : Nat)))) w.heap.size),
      .val ((TWO (IS (.int .u64 0)) (IS (.int .u64 (h : Nat)))) w.heap.size),
      .val (Is (.int .u64 0)),
      .val (Is (.int .u64 (h : Nat))),
      .val (Is (.int .u64 0)),
      .val (Is (.int .u64 (h : Nat)))] [] [.inl 9, .inl 10, .inr 0, .inr 1, .inr 2, .inr 3] follows S2 rfl (by kernel_rfl) ?_ ?_
  · refine ⟨⟨⟨⟨⟨⟨⟨⟨⟨⟨⟨trivial, ?_⟩, ?_⟩, ?_⟩, ?_⟩, ?_⟩, ?_⟩, ?_⟩, ?_⟩, ?_⟩, ?_⟩, ?_⟩
    · exact owe_move rfl (wants_all rfl) (Or.inl rfl) (opnd_slot 2 0 rfl (by kernel_rfl)) rfl
    · exact owe_len rfl (wants_all rfl) rfl (opnd_op 0 13 (by kernel_rfl) rfl) ar_len Tryd.underlying98 rfl
    · exact owe_un (x := .tmp 14) rfl (wants_all rfl) rfl (opnd_op 1 14 (by kernel_rfl) rfl) rfl (fun ρ w h1 => by unfold execOp; go_simp; rfl)
    · exact owe_move rfl (wants_all rfl) (Or.inl rfl) (opnd_slot 3 1 rfl (by kernel_rfl)) rfl
    · exact owe_un (x := .tmp 16) rfl (wants_all rfl) rfl (opnd_op 3 16 (by kernel_rfl) rfl) rfl (fun ρ w h1 => by unfold execOp; go_simp)
    · exact owe_call2 rfl (wants_all rfl) rfl (opnd_op 2 15 (by kernel_rfl) rfl) (opnd_op 4 17 (by kernel_rfl) rfl) (fresh_two (fresh_is _) (fresh_is _)) rfl (fun args w => by go_simp) (fun w u v hu hv => by obtain rfl : u = _ := hu; obtain rfl : v = _ := hv; exact (mul1 w h (by omega)).mono (by rintro e w' ⟨rfl, rfl⟩; exact ⟨_, rfl, Below.refl _ _, _, _, rfl, rfl, rfl⟩))
    · exact owe_move rfl (wants_all rfl) (Or.inl rfl) (opnd_op 5 18 (by kernel_rfl) rfl) rfl
    · exact owe_ext2 rfl (wants_all rfl) rfl (opnd_op 6 12 (by kernel_rfl) rfl) (Or.inl ⟨rfl, rfl⟩) rfl
    · exact owe_ext2 rfl (wants_all rfl) rfl (opnd_op 6 12 (by kernel_rfl) rfl) (Or.inr ⟨rfl, rfl⟩) rfl
    · exact owe_move rfl (wants_all rfl) (Or.inr rfl) (opnd_op 7 19 (by kernel_rfl) rfl) rfl
    · exact owe_move rfl (wants_all rfl) (Or.inr rfl) (opnd_op 8 20 (by kernel_rfl) rfl) rfl
  intro B3 a3 W3 S3
  replace S3 : Sta w 48 [] [(5, (Is (.int .u64 0))), (6, (Is (.int .u64 (h : Nat)))), (10, (Is (.bool false))), (4, (Is (.slice none 0 0))), (0, (Ar 1 1 ([Is (.int .i64 (x : Nat))]))), (1, (Is (.int .i64 (h : Nat))))] B3 a3 W3 := S3
  refine wp_seq ?_
  refine wp_stmt_seq [.val (Is (.int .u64 0)),
      .val (Is (.bool false)),
      .val (Is (.bool false)),
      .val (Is (.int .u64 (h : Nat))),
      .val (Is (.bool false)),
      .val (Is (.bool false))] [] [.inl 5, .inr 1, .inr 2, .inr 3, .inr 4, .inr 5] follows S3 rfl (by kernel_rfl) ?_ ?_
  · refine ⟨⟨⟨⟨⟨⟨trivial, ?_⟩, ?_⟩, ?_⟩, ?_⟩, ?_⟩, ?_⟩
    · exact owe_move rfl (wants_all rfl) (Or.inl rfl) (opnd_slot 0 5 rfl (by kernel_rfl)) rfl
    · exact owe_bin rfl (wants_all rfl) rfl (opnd_op 0 21 (by kernel_rfl) rfl) (opnd_const _) rfl (fun ρ w h1 h2 => by unfold execOp; go_simp)
    · exact owe_move rfl (wants_all rfl) (Or.inl rfl) (opnd_op 1 22 (by kernel_rfl) rfl) rfl
    · exact owe_move rfl (wants_if 2 23 rfl (by kernel_rfl) rfl) (Or.inl rfl) (opnd_slot 1 6 rfl (by kernel_rfl)) rfl
    · exact owe_bin rfl (wants_if 2 23 rfl (by kernel_rfl) rfl) rfl (opnd_op 3 24 (by kernel_rfl) rfl) (opnd_const _) rfl (fun ρ w h1 h2 => by unfold execOp; go_simp)
    · exact owe_pick rfl (wants_all rfl) rfl (opnd_op 2 23 (by kernel_rfl) rfl) (fun h => nomatch h) (fun _ => (opnd_op 4 25 (by kernel_rfl) rfl)) rfl
  intro B4 a4 W4 S4
  replace S4 : Sta w 48 [] [(26, (Is (.bool false))), (6, (Is (.int .u64 (h : Nat)))), (10, (Is (.bool false))), (4, (Is (.slice none 0 0))), (0, (Ar 1 1 ([Is (.int .i64 (x : Nat))]))), (1, (Is (.int .i64 (h : Nat))))] B4 a4 W4 := S4
  refine wp_cond_false (S4.bool 0 26 rfl) ?_
  refine wp_skip ?_
  refine thenN ?_
  refine wp_stmt_seq [.val (Is (.int .u64 (h : Nat))),
      .val (Is (.int .i64 (h : Nat))),
      .new (.row 3 1 h (CE 1 (List.replicate h (Is (.int .i64 0))))),
      .ref 2] [.inl 3] [.inr 0, .inr 1, .inr 2, .inr 3, .inr 4, .inr 5] follows S4 rfl (by kernel_rfl) ?_ ?_
  · refine ⟨⟨⟨⟨trivial, ?_⟩, ?_⟩, ?_⟩, ?_⟩
    · exact owe_move rfl (wants_all rfl) (Or.inl rfl) (opnd_slot 1 6 rfl (by kernel_rfl)) rfl
    · exact owe_un (x := .tmp 28) rfl (wants_all rfl) rfl (opnd_op 0 28 (by kernel_rfl) rfl) rfl (fun ρ w h1 => by unfold execOp; go_simp)
    · exact owe_makeE rfl (wants_all rfl) rfl Tryd.underlying98 infoI (celv_one rfl) (by decide) (opnd_op 1 29 (by kernel_rfl) rfl) ⟨by omega, by unfold maxLen; omega⟩ rfl
    · exact owe_ref 2 rfl (wants_all rfl) (Or.inr rfl) (by kernel_rfl) rfl rfl
  intro B5 a5 W5 S5
  replace S5 : Sta w 48 [(7, (.row 3 1 h (CE 1 (List.replicate h (Is (.int .i64 0))))))] [(26, (Is (.bool false))), (6, (Is (.int .u64 (h : Nat)))), (10, (Is (.bool false))), (4, (Is (.slice none 0 0))), (0, (Ar 1 1 ([Is (.int .i64 (x : Nat))]))), (1, (Is (.int .i64 (h : Nat))))] B5 a5 W5 := S5
  refine wp_stmt_seq [.val (Is (a5.eval (.tmp 7))),
      .val (Ar 1 1 ([Is (.int .i64 (x : Nat))])),
      .turn (.inl 7) (.row 3 1 h (CE 1 (List.replicate 1 (Is (.int .i64 (x : Nat))) ++ List.replicate (h - 1) (Is (.int .i64 0))))) (Is (.int .i64 (1 : Nat))),
      .val (Is (.int .i64 (1 : Nat)))] [.inr 0] [.inl 3, .inr 0, .inr 1, .inr 2, .inr 3, .inr 4, .inr 5] follows S5 rfl (by kernel_rfl) ?_ ?_
  · refine ⟨⟨⟨⟨trivial, ?_⟩, ?_⟩, ?_⟩, ?_⟩
    · exact owe_same rfl (wants_all rfl) (Or.inl rfl) (by kernel_rfl) rfl
    · exact owe_move rfl (wants_all rfl) (Or.inl rfl) (opnd_slot 4 0 rfl (by kernel_rfl)) rfl
    · exact owe_copyIn (m' := 1) rfl (wants_all rfl) rfl Tryd.underlying98 (by obtain ⟨i0, hi, _, hz1, _⟩ := info_parts infoI; rw [hi]; simp [hz1]) (opnd_op 0 31 (by kernel_rfl) rfl) (opnd_op 1 32 (by kernel_rfl) rfl) (fun i φ hφ => by match i, hφ with | 0, hφ => simp at hφ; rw [← hφ]; exact cel_is rfl | i + 1, hφ => simp at hφ) (k := 0) rfl (by kernel_rfl) (by rw [show Nat.min 1 h = 1 from Nat.min_eq_left (by omega)]) (by omega) (by decide) (by rw [hcp]; rfl)
    · exact owe_move rfl (wants_all rfl) (Or.inr rfl) (opnd_turn 2 33 (by kernel_rfl) rfl) rfl
  intro B6 a6 W6 S6
  replace S6 : Sta w 48 [(7, (.row 3 1 h (CE 1 (List.replicate 1 (Is (.int .i64 (x : Nat))) ++ List.replicate (h - 1) (Is (.int .i64 0))))))] [(8, (Is (.int .i64 (1 : Nat)))), (26, (Is (.bool false))), (6, (Is (.int .u64 (h : Nat)))), (10, (Is (.bool false))), (4, (Is (.slice none 0 0))), (0, (Ar 1 1 ([Is (.int .i64 (x : Nat))]))), (1, (Is (.int .i64 (h : Nat))))] B6 a6 W6 := S6
  refine wp_seq ?_
  refine wp_block ?_
  refine wp_loop_ghost (fun (k : Nat) a W => (1 ≤ k ∧ k ≤ h) ∧ ∃ Bq, Sta w 48 [(7, (.row 3 1 h (CE 1 (List.replicate k (Is (.int .i64 (x : Nat))) ++ List.replicate (h - k) (Is (.int .i64 0))))))] [(8, (Is (.int .i64 (k : Nat))))] Bq a W) (fun (k : Nat) => h - k) ?_ 1 ⟨⟨by omega, by omega⟩, B6, S6.sub [0] [0]⟩
  rintro k a7 W7 ⟨hcond, B7, S7⟩
  by_cases hlt : k < h
  · have hm1 : Nat.min k (h - k) ≤ k := Nat.min_le_left _ _
    have hm2 : Nat.min k (h - k) ≤ h - k := Nat.min_le_right _ _
    have hm3 : 1 ≤ Nat.min k (h - k) := by rw [Nat.le_min]; omega
    have hst := rep_step (Is (.int .i64 (x : Nat))) (Is (.int .i64 0)) h k (Nat.min k (h - k)) (by omega) hm1
    obtain ⟨m, em⟩ : ∃ m, m = Nat.min k (h - k) := ⟨_, rfl⟩
    rw [← em] at hm1 hm2 hm3 hst
    refine wp_seq ?_
    refine wp_stmt_seq [.val (Is (.int .i64 (k : Nat))),
      .val (Is (a7.eval (.tmp 7))),
      .val (Is (.int .i64 (h : Nat))),
      .val (Is (.bool true))] [.inr 0] [.inl 3, .inr 0] follows S7 rfl (by kernel_rfl) ?_ ?_
    · refine ⟨⟨⟨⟨trivial, ?_⟩, ?_⟩, ?_⟩, ?_⟩
      · exact owe_move rfl (wants_all rfl) (Or.inl rfl) (opnd_slot 0 8 rfl (by kernel_rfl)) rfl
      · exact owe_same rfl (wants_all rfl) (Or.inl rfl) (by kernel_rfl) rfl
      · exact owe_lenrow rfl (wants_all rfl) rfl Tryd.underlying98 (opnd_op 1 35 (by kernel_rfl) rfl) (k := 0) rfl (by kernel_rfl) rfl
      · exact owe_bin rfl (wants_all rfl) rfl (opnd_op 0 34 (by kernel_rfl) rfl) (opnd_op 2 36 (by kernel_rfl) rfl) rfl (fun ρ w h1 h2 => by exact run_lss_int_t ρ _ _ _ w _ _ (by omega) h1 h2)
    intro B8 a8 W8 S8
    replace S8 : Sta w 48 [(7, (.row 3 1 h (CE 1 (List.replicate k (Is (.int .i64 (x : Nat))) ++ List.replicate (h - k) (Is (.int .i64 0))))))] [(37, (Is (.bool true))), (8, (Is (.int .i64 (k : Nat))))] B8 a8 W8 := S8
    refine wp_cond_true (S8.bool 0 37 rfl) ?_
    refine wp_skip ?_
    refine thenN ?_
    refine wp_block ?_
    refine wp_stmt [.val (Is (.int .i64 (k : Nat))),
      .val (Is (a8.eval (.tmp 7))),
      .val (Is (.int .i64 (k : Nat))),
      .val (DstV a8 7 h k),
      .val (Is (a8.eval (.tmp 7))),
      .val (Is (.int .i64 (k : Nat))),
      .val (HeadV a8 7 h k),
      .turn (.inl 7) (.row 3 1 h (CE 1 (List.replicate (k + m) (Is (.int .i64 (x : Nat))) ++ List.replicate (h - (k + m)) (Is (.int .i64 0))))) (Is (.int .i64 (m : Nat))),
      .val (Is (.int .i64 (k + m : Nat))),
      .val (Is (.int .i64 (k + m : Nat)))] [.inr 0] [.inl 9, .inr 0] follows S8 rfl (by kernel_rfl) ?_ ?_
    · refine ⟨⟨⟨⟨⟨⟨⟨⟨⟨⟨trivial, ?_⟩, ?_⟩, ?_⟩, ?_⟩, ?_⟩, ?_⟩, ?_⟩, ?_⟩, ?_⟩, ?_⟩
      · exact owe_move rfl (wants_all rfl) (Or.inl rfl) (opnd_slot 1 8 rfl (by kernel_rfl)) rfl
      · exact owe_same rfl (wants_all rfl) (Or.inl rfl) (by kernel_rfl) rfl
      · exact owe_move rfl (wants_all rfl) (Or.inl rfl) (opnd_slot 1 8 rfl (by kernel_rfl)) rfl
      · exact owe_dst rfl (wants_all rfl) rfl slo_is (opnd_op 1 39 (by kernel_rfl) rfl) (k := 0) rfl (by kernel_rfl) (opnd_op 2 40 (by kernel_rfl) rfl) hlt rfl
      · exact owe_same rfl (wants_all rfl) (Or.inl rfl) (by kernel_rfl) rfl
      · exact owe_move rfl (wants_all rfl) (Or.inl rfl) (opnd_slot 1 8 rfl (by kernel_rfl)) rfl
      · exact owe_head rfl (wants_all rfl) rfl shi_is (opnd_op 4 42 (by kernel_rfl) rfl) (k := 0) rfl (by kernel_rfl) (opnd_op 5 43 (by kernel_rfl) rfl) (by omega) (by omega) rfl
      · exact owe_copySelf (m := m) rfl (wants_all rfl) rfl Tryd.underlying98 (by obtain ⟨i0, hi, _, hz1, _⟩ := info_parts infoI; rw [hi]; simp [hz1]) (opnd_op 3 41 (by kernel_rfl) rfl) (opnd_op 6 44 (by kernel_rfl) rfl) (k := 0) rfl (by kernel_rfl) em hlt (by rw [hst]; rfl)
      · exact owe_bin rfl (wants_all rfl) rfl (opnd_op 0 38 (by kernel_rfl) rfl) (opnd_turn 7 45 (by kernel_rfl) rfl) rfl (fun ρ w h1 h2 => by exact run_add_int ρ _ _ _ w _ _ _ ⟨by omega, by omega, by omega⟩ h1 h2)
      · exact owe_move rfl (wants_all rfl) (Or.inr rfl) (opnd_op 8 46 (by kernel_rfl) rfl) rfl
    intro B9 a9 W9 S9
    replace S9 : Sta w 48 [(7, (.row 3 1 h (CE 1 (List.replicate (k + m) (Is (.int .i64 (x : Nat))) ++ List.replicate (h - (k + m)) (Is (.int .i64 0))))))] [(8, (Is (.int .i64 (k + m : Nat)))), (37, (Is (.bool true)))] B9 a9 W9 := S9
    refine inBlkN ?_
    refine thenN ?_
    exact ⟨k + m, ⟨⟨by omega, by omega⟩, B9, S9.sub [0] [0]⟩, by omega⟩
  · have ek : k = h := by omega
    have hend : List.replicate k (Is (.int .i64 (x : Nat))) ++ List.replicate (h - k) (Is (.int .i64 0)) = List.replicate h (Is (.int .i64 (x : Nat))) := by rw [ek, Nat.sub_self]; simp
    refine wp_seq ?_
    refine wp_stmt_seq [.val (Is (.int .i64 (k : Nat))),
      .val (Is (a7.eval (.tmp 7))),
      .val (Is (.int .i64 (h : Nat))),
      .val (Is (.bool false))] [.inr 0] [.inl 3, .inr 0] follows S7 rfl (by kernel_rfl) ?_ ?_
    · refine ⟨⟨⟨⟨trivial, ?_⟩, ?_⟩, ?_⟩, ?_⟩
      · exact owe_move rfl (wants_all rfl) (Or.inl rfl) (opnd_slot 0 8 rfl (by kernel_rfl)) rfl
      · exact owe_same rfl (wants_all rfl) (Or.inl rfl) (by kernel_rfl) rfl
      · exact owe_lenrow rfl (wants_all rfl) rfl Tryd.underlying98 (opnd_op 1 35 (by kernel_rfl) rfl) (k := 0) rfl (by kernel_rfl) rfl
      · exact owe_bin rfl (wants_all rfl) rfl (opnd_op 0 34 (by kernel_rfl) rfl) (opnd_op 2 36 (by kernel_rfl) rfl) rfl (fun ρ w h1 h2 => by exact run_lss_int_f ρ _ _ _ w _ _ (by omega) h1 h2)
    intro B8 a8 W8 S8
    replace S8 : Sta w 48 [(7, (.row 3 1 h (CE 1 (List.replicate k (Is (.int .i64 (x : Nat))) ++ List.replicate (h - k) (Is (.int .i64 0))))))] [(37, (Is (.bool false))), (8, (Is (.int .i64 (k : Nat))))] B8 a8 W8 := S8
    refine wp_cond_false (S8.bool 0 37 rfl) ?_
    refine wp_exit ?_
    refine thenX ?_
    refine thenX ?_
    refine inBlkE ?_
    refine thenN ?_
    obtain ⟨B9, S9⟩ : ∃ Bq, Sta w 48 [] [(7, ((LF 1 h (List.replicate h (IS (.int .i64 (x : Nat))))) w.heap.size)), (37, (Is (.bool false))), (8, (Is (.int .i64 (k : Nat))))] Bq a8 W8 := ⟨_, S8.freeze 0 rfl (by simp) (fun v w' xs ho hc => row_lf (ψs := List.replicate h (IS (.int .i64 (x : Nat)))) (by decide) v w' xs ho (by rw [List.map_replicate]; rw [hend] at hc; exact hc))⟩
    obtain ⟨a9, W9, e1, e2⟩ : ∃ a W, a8 = a ∧ W8 = W := ⟨_, _, rfl, rfl⟩
    rw [e1, e2] at S9 ⊢
    clear e1 e2
    refine wp_stmt_seq [.val ((LF 1 h (List.replicate h (IS (.int .i64 (x : Nat))))) w.heap.size),
      .val ((LF 1 h (List.replicate h (IS (.int .i64 (x : Nat))))) w.heap.size)] [] [.inl 1, .inr 0, .inr 1, .inr 2] follows S9 rfl (by kernel_rfl) ?_ ?_
    · refine ⟨⟨trivial, ?_⟩, ?_⟩
      · exact owe_move rfl (wants_all rfl) (Or.inl rfl) (opnd_slot 0 7 rfl (by kernel_rfl)) rfl
      · exact owe_move rfl (wants_all rfl) (Or.inr rfl) (opnd_op 0 47 (by kernel_rfl) rfl) rfl
    intro B10 a10 W10 S10
    replace S10 : Sta w 48 [] [(4, ((LF 1 h (List.replicate h (IS (.int .i64 (x : Nat))))) w.heap.size)), (7, ((LF 1 h (List.replicate h (IS (.int .i64 (x : Nat))))) w.heap.size)), (37, (Is (.bool false))), (8, (Is (.int .i64 (k : Nat))))] B10 a10 W10 := S10
    refine wp_ret ?_
    exact end_one S10 rfl (res_tmp S10 0 4 rfl)

set_option maxHeartbeats 400000 in
theorem repeat_n (w : World) (u : Value) (x h : Nat) (hu : Hs w (Ar 1 1 [Is (.int .i64 (x : Nat))]) u) (hh : h ≤ 1048576) (h0 : h < 1) :
    Calls Tryd.prog 72 #[u, .int .i64 (h : Nat)] w (Gives (LF 1 h (List.replicate h (IS (.int .i64 (x : Nat))))) w) := by
  have hw1 : IntKind.u64.wrap (h : Int) = (h : Int) := by rw [IntKind.wrap_u64]; omega
  have hw2 : IntKind.i64.wrap (h : Int) = (h : Int) := by rw [IntKind.wrap_i64]; omega
  have hq : ¬ ((9223372036854775807 : Int) < (h : Int)) := by omega
  have hq2 : ¬ ((h : Int) > 9223372036854775807) := by omega
  refine calls_sta (sl := [(0, (Ar 1 1 ([Is (.int .i64 (x : Nat))]))), (1, (Is (.int .i64 (h : Nat))))]) Tryd.func72 rfl Tryd.ntmps72 (by simp) (args_cons rfl (hu) (args_cons rfl (is_has _) args_nil)) ?_
  intro a0 S0
  refine wp_stmt_seq [.val (Is (.slice none 0 0))] [] [.inl 0, .inr 0, .inr 1] follows S0 rfl (by kernel_rfl) ?_ ?_
  · refine ⟨trivial, ?_⟩
    · exact owe_move rfl (wants_all rfl) (Or.inr rfl) (opnd_const _) rfl
  intro B1 a1 W1 S1
  replace S1 : Sta w 48 [] [(4, (Is (.slice none 0 0))), (0, (Ar 1 1 ([Is (.int .i64 (x : Nat))]))), (1, (Is (.int .i64 (h : Nat))))] B1 a1 W1 := S1
  refine wp_seq ?_
  refine wp_stmt_seq [.val (Is (.int .i64 (h : Nat))),
      .val (Is (.bool false))] [] [.inl 1, .inr 0, .inr 1, .inr 2] follows S1 rfl (by kernel_rfl) ?_ ?_
  · refine ⟨⟨trivial, ?_⟩, ?_⟩
    · exact owe_move rfl (wants_all rfl) (Or.inl rfl) (opnd_slot 2 1 rfl (by kernel_rfl)) rfl
    · exact owe_bin rfl (wants_all rfl) rfl (opnd_op 0 9 (by kernel_rfl) rfl) (opnd_const _) rfl (fun ρ w h1 h2 => by exact run_lss_int_f ρ _ _ _ w _ _ (by omega) h1 h2)
  intro B2 a2 W2 S2
  replace S2 : Sta w 48 [] [(10, (Is (.bool false))), (4, (Is (.slice none 0 0))), (0, (Ar 1 1 ([Is (.int .i64 (x : Nat))]))), (1, (Is (.int .i64 (h : Nat))))] B2 a2 W2 := S2
  refine wp_cond_false (S2.bool 0 10 rfl) ?_
  refine wp_skip ?_
  refine thenN ?_
  refine wp_stmt_seq [.val (Ar 1 1 ([Is (.int .i64 (x : Nat))])),
      .val (Is (.int .i64 (1 : Nat))),
      .val (Is (.int .u64 1)),
      .val (Is (.int .i64 (h : Nat))),
      .val (Is (.int .u64 (h : Nat))),
      .val ((TWO (IS (.int .u64 0)) (IS (.int .u64 (h : Nat)))) w.heap.size),
      .val ((TWO (IS (.int .u64 0)) (IS (.int .u64 (h : Nat)))) w.heap.size),
      .val (Is (.int .u64 0)),
      .val (Is (.int .u64 (h : Nat))),
      .val (Is (.int .u64 0)),
      .val (Is (.int .u64 (h : Nat)))] [] [.inl 9, .inl 10, .inr 0, .inr 1, .inr 2, .inr 3] follows S2 rfl (by kernel_rfl) ?_ ?_
  · refine ⟨⟨⟨⟨⟨⟨⟨⟨⟨⟨⟨trivial, ?_⟩, ?_⟩, ?_⟩, ?_⟩, ?_⟩, ?_⟩, ?_⟩, ?_⟩, ?_⟩, ?_⟩, ?_⟩
    · exact owe_move rfl (wants_all rfl) (Or.inl rfl) (opnd_slot 2 0 rfl (by kernel_rfl)) rfl
    · exact owe_len rfl (wants_all rfl) rfl (opnd_op 0 13 (by kernel_rfl) rfl) ar_len Tryd.underlying98 rfl
    · exact owe_un (x := .tmp 14) rfl (wants_all rfl) rfl (opnd_op 1 14 (by kernel_rfl) rfl) rfl (fun ρ w h1 => by unfold execOp; go_simp; rfl)
    · exact owe_move rfl (wants_all rfl) (Or.inl rfl) (opnd_slot 3 1 rfl (by kernel_rfl)) rfl
    · exact owe_un (x := .tmp 16) rfl (wants_all rfl) rfl (opnd_op 3 16 (by kernel_rfl) rfl) rfl (fun ρ w h1 => by unfold execOp; go_simp)
    · exact owe_call2 rfl (wants_all rfl) rfl (opnd_op 2 15 (by kernel_rfl) rfl) (opnd_op 4 17 (by kernel_rfl) rfl) (fresh_two (fresh_is _) (fresh_is _)) rfl (fun args w => by go_simp) (fun w u v hu hv => by obtain rfl : u = _ := hu; obtain rfl : v = _ := hv; exact (mul1 w h (by omega)).mono (by rintro e w' ⟨rfl, rfl⟩; exact ⟨_, rfl, Below.refl _ _, _, _, rfl, rfl, rfl⟩))
    · exact owe_move rfl (wants_all rfl) (Or.inl rfl) (opnd_op 5 18 (by kernel_rfl) rfl) rfl
    · exact owe_ext2 rfl (wants_all rfl) rfl (opnd_op 6 12 (by kernel_rfl) rfl) (Or.inl ⟨rfl, rfl⟩) rfl
    · exact owe_ext2 rfl (wants_all rfl) rfl (opnd_op 6 12 (by kernel_rfl) rfl) (Or.inr ⟨rfl, rfl⟩) rfl
    · exact owe_move rfl (wants_all rfl) (Or.inr rfl) (opnd_op 7 19 (by kernel_rfl) rfl) rfl
    · exact owe_move rfl (wants_all rfl) (Or.inr rfl) (opnd_op 8 20 (by kernel_rfl) rfl) rfl
  intro B3 a3 W3 S3
  replace S3 : Sta w 48 [] [(5, (Is (.int .u64 0))), (6, (Is (.int .u64 (h : Nat)))), (10, (Is (.bool false))), (4, (Is (.slice none 0 0))), (0, (Ar 1 1 ([Is (.int .i64 (x : Nat))]))), (1, (Is (.int .i64 (h : Nat))))] B3 a3 W3 := S3
  refine wp_seq ?_
  refine wp_stmt_seq [.val (Is (.int .u64 0)),
      .val (Is (.bool false)),
      .val (Is (.bool false)),
      .val (Is (.int .u64 (h : Nat))),
      .val (Is (.bool false)),
      .val (Is (.bool false))] [] [.inl 5, .inr 1, .inr 2, .inr 3, .inr 4, .inr 5] follows S3 rfl (by kernel_rfl) ?_ ?_
  · refine ⟨⟨⟨⟨⟨⟨trivial, ?_⟩, ?_⟩, ?_⟩, ?_⟩, ?_⟩, ?_⟩
    · exact owe_move rfl (wants_all rfl) (Or.inl rfl) (opnd_slot 0 5 rfl (by kernel_rfl)) rfl
    · exact owe_bin rfl (wants_all rfl) rfl (opnd_op 0 21 (by kernel_rfl) rfl) (opnd_const _) rfl (fun ρ w h1 h2 => by unfold execOp; go_simp)
    · exact owe_move rfl (wants_all rfl) (Or.inl rfl) (opnd_op 1 22 (by kernel_rfl) rfl) rfl
    · exact owe_move rfl (wants_if 2 23 rfl (by kernel_rfl) rfl) (Or.inl rfl) (opnd_slot 1 6 rfl (by kernel_rfl)) rfl
    · exact owe_bin rfl (wants_if 2 23 rfl (by kernel_rfl) rfl) rfl (opnd_op 3 24 (by kernel_rfl) rfl) (opnd_const _) rfl (fun ρ w h1 h2 => by unfold execOp; go_simp)
    · exact owe_pick rfl (wants_all rfl) rfl (opnd_op 2 23 (by kernel_rfl) rfl) (fun h => nomatch h) (fun _ => (opnd_op 4 25 (by kernel_rfl) rfl)) rfl
  intro B4 a4 W4 S4
  replace S4 : Sta w 48 [] [(26, (Is (.bool false))), (6, (Is (.int .u64 (h : Nat)))), (10, (Is (.bool false))), (4, (Is (.slice none 0 0))), (0, (Ar 1 1 ([Is (.int .i64 (x : Nat))]))), (1, (Is (.int .i64 (h : Nat))))] B4 a4 W4 := S4
  refine wp_cond_false (S4.bool 0 26 rfl) ?_
  refine wp_skip ?_
  refine thenN ?_
  refine wp_stmt_seq [.val (Is (.int .u64 (h : Nat))),
      .val (Is (.int .i64 (h : Nat))),
      .new (.row 3 1 h (CE 1 (List.replicate h (Is (.int .i64 0))))),
      .ref 2] [.inl 3] [.inr 0, .inr 1, .inr 2, .inr 3, .inr 4, .inr 5] follows S4 rfl (by kernel_rfl) ?_ ?_
  · refine ⟨⟨⟨⟨trivial, ?_⟩, ?_⟩, ?_⟩, ?_⟩
    · exact owe_move rfl (wants_all rfl) (Or.inl rfl) (opnd_slot 1 6 rfl (by kernel_rfl)) rfl
    · exact owe_un (x := .tmp 28) rfl (wants_all rfl) rfl (opnd_op 0 28 (by kernel_rfl) rfl) rfl (fun ρ w h1 => by unfold execOp; go_simp)
    · exact owe_makeE rfl (wants_all rfl) rfl Tryd.underlying98 infoI (celv_one rfl) (by decide) (opnd_op 1 29 (by kernel_rfl) rfl) ⟨by omega, by unfold maxLen; omega⟩ rfl
    · exact owe_ref 2 rfl (wants_all rfl) (Or.inr rfl) (by kernel_rfl) rfl rfl
  intro B5 a5 W5 S5
  replace S5 : Sta w 48 [(7, (.row 3 1 h (CE 1 (List.replicate h (Is (.int .i64 0))))))] [(26, (Is (.bool false))), (6, (Is (.int .u64 (h : Nat)))), (10, (Is (.bool false))), (4, (Is (.slice none 0 0))), (0, (Ar 1 1 ([Is (.int .i64 (x : Nat))]))), (1, (Is (.int .i64 (h : Nat))))] B5 a5 W5 := S5
  refine wp_stmt_seq [.val (Is (a5.eval (.tmp 7))),
      .val (Ar 1 1 ([Is (.int .i64 (x : Nat))])),
      .val (Is (.int .i64 0)),
      .val (Is (.int .i64 0))] [.inr 0] [.inl 3, .inr 0, .inr 1, .inr 2, .inr 3, .inr 4, .inr 5] follows S5 rfl (by kernel_rfl) ?_ ?_
  · refine ⟨⟨⟨⟨trivial, ?_⟩, ?_⟩, ?_⟩, ?_⟩
    · exact owe_same rfl (wants_all rfl) (Or.inl rfl) (by kernel_rfl) rfl
    · exact owe_move rfl (wants_all rfl) (Or.inl rfl) (opnd_slot 4 0 rfl (by kernel_rfl)) rfl
    · exact owe_copy0 rfl (wants_all rfl) rfl Tryd.underlying98 (by obtain ⟨i0, hi, _, hz1, _⟩ := info_parts infoI; rw [hi]; simp [hz1]) (opnd_op 0 31 (by kernel_rfl) rfl) (opnd_op 1 32 (by kernel_rfl) rfl) (k := 0) rfl (by kernel_rfl) rfl (by omega) (by decide)
    · exact owe_move rfl (wants_all rfl) (Or.inr rfl) (opnd_op 2 33 (by kernel_rfl) rfl) rfl
  intro B6 a6 W6 S6
  replace S6 : Sta w 48 [(7, (.row 3 1 h (CE 1 (List.replicate h (Is (.int .i64 0))))))] [(8, (Is (.int .i64 0))), (26, (Is (.bool false))), (6, (Is (.int .u64 (h : Nat)))), (10, (Is (.bool false))), (4, (Is (.slice none 0 0))), (0, (Ar 1 1 ([Is (.int .i64 (x : Nat))]))), (1, (Is (.int .i64 (h : Nat))))] B6 a6 W6 := S6
  refine wp_seq ?_
  refine wp_block ?_
  refine wp_loop_ghost (fun (k : Nat) a W => (k = 0) ∧ ∃ Bq, Sta w 48 [(7, (.row 3 1 h (CE 1 (List.replicate h (Is (.int .i64 0))))))] [(8, (Is (.int .i64 0)))] Bq a W) (fun (k : Nat) => 0) ?_ 0 ⟨rfl, B6, S6.sub [0] [0]⟩
  rintro k a7 W7 ⟨hcond, B7, S7⟩
  · have hend : List.replicate h (Is (.int .i64 0)) = List.replicate h (Is (.int .i64 (x : Nat))) := by rw [show h = 0 from by omega]; rfl
    refine wp_seq ?_
    refine wp_stmt_seq [.val (Is (.int .i64 0)),
      .val (Is (a7.eval (.tmp 7))),
      .val (Is (.int .i64 (h : Nat))),
      .val (Is (.bool false))] [.inr 0] [.inl 3, .inr 0] follows S7 rfl (by kernel_rfl) ?_ ?_
    · refine ⟨⟨⟨⟨trivial, ?_⟩, ?_⟩, ?_⟩, ?_⟩
      · exact owe_move rfl (wants_all rfl) (Or.inl rfl) (opnd_slot 0 8 rfl (by kernel_rfl)) rfl
      · exact owe_same rfl (wants_all rfl) (Or.inl rfl) (by kernel_rfl) rfl
      · exact owe_lenrow rfl (wants_all rfl) rfl Tryd.underlying98 (opnd_op 1 35 (by kernel_rfl) rfl) (k := 0) rfl (by kernel_rfl) rfl
      · exact owe_bin rfl (wants_all rfl) rfl (opnd_op 0 34 (by kernel_rfl) rfl) (opnd_op 2 36 (by kernel_rfl) rfl) rfl (fun ρ w h1 h2 => by exact run_lss_int_f ρ _ _ _ w _ _ (by omega) h1 h2)
    intro B8 a8 W8 S8
    replace S8 : Sta w 48 [(7, (.row 3 1 h (CE 1 (List.replicate h (Is (.int .i64 0))))))] [(37, (Is (.bool false))), (8, (Is (.int .i64 0)))] B8 a8 W8 := S8
    refine wp_cond_false (S8.bool 0 37 rfl) ?_
    refine wp_exit ?_
    refine thenX ?_
    refine thenX ?_
    refine inBlkE ?_
    refine thenN ?_
    obtain ⟨B9, S9⟩ : ∃ Bq, Sta w 48 [] [(7, ((LF 1 h (List.replicate h (IS (.int .i64 (x : Nat))))) w.heap.size)), (37, (Is (.bool false))), (8, (Is (.int .i64 0)))] Bq a8 W8 := ⟨_, S8.freeze 0 rfl (by simp) (fun v w' xs ho hc => row_lf (ψs := List.replicate h (IS (.int .i64 (x : Nat)))) (by decide) v w' xs ho (by rw [List.map_replicate]; rw [hend] at hc; exact hc))⟩
    obtain ⟨a9, W9, e1, e2⟩ : ∃ a W, a8 = a ∧ W8 = W := ⟨_, _, rfl, rfl⟩
    rw [e1, e2] at S9 ⊢
    clear e1 e2
    refine wp_stmt_seq [.val ((LF 1 h (List.replicate h (IS (.int .i64 (x : Nat))))) w.heap.size),
      .val ((LF 1 h (List.replicate h (IS (.int .i64 (x : Nat))))) w.heap.size)] [] [.inl 1, .inr 0, .inr 1, .inr 2] follows S9 rfl (by kernel_rfl) ?_ ?_
    · refine ⟨⟨trivial, ?_⟩, ?_⟩
      · exact owe_move rfl (wants_all rfl) (Or.inl rfl) (opnd_slot 0 7 rfl (by kernel_rfl)) rfl
      · exact owe_move rfl (wants_all rfl) (Or.inr rfl) (opnd_op 0 47 (by kernel_rfl) rfl) rfl
    intro B10 a10 W10 S10
    replace S10 : Sta w 48 [] [(4, ((LF 1 h (List.replicate h (IS (.int .i64 (x : Nat))))) w.heap.size)), (7, ((LF 1 h (List.replicate h (IS (.int .i64 (x : Nat))))) w.heap.size)), (37, (Is (.bool false))), (8, (Is (.int .i64 0)))] B10 a10 W10 := S10
    refine wp_ret ?_
    exact end_one S10 rfl (res_tmp S10 0 4 rfl)

theorem repeat_w (w : World) (u : Value) (x h : Nat) (hu : Hs w (Ar 1 1 [Is (.int .i64 (x : Nat))]) u) (hh : h ≤ 1048576) : Calls Tryd.prog 72 #[u, .int .i64 (h : Nat)] w (Gives (LF 1 h (List.replicate h (IS (.int .i64 (x : Nat))))) w) := by
  rcases Nat.eq_zero_or_pos h with h0 | h0
  · exact repeat_n w u x h hu hh (by omega)
  · exact repeat_y w u x h hu hh h0

end Go.Proofs.YtdhjgekbocnnkaaDoor

/-
  A blank matrix: the table of its rows, and the block of its numbers, which is the caller's own.
-/
namespace Go.Proofs.YtdhjgekbocnnkaaDoor
open Go Go.RowKit Nt
set_option linter.unusedSimpArgs false
set_option linter.unusedVariables false
set_option maxRecDepth 20000

theorem run_mul_i (ρ : Operand → Value) (o : Oper) (x y : Operand) (w : World) (a b r : Int) (h : a * b = r ∧ -9223372036854775808 ≤ r ∧ r ≤ 9223372036854775807) (h1 : ρ x = .int .i64 a) (h2 : ρ y = .int .i64 b) : (execOp ρ { o with op := .binOp .mul 3 x y 3 }).run Tryd.prog w = .ok (.value (.int .i64 r)) w := by
  obtain ⟨rfl, h3, h4⟩ := h
  have h5 : IntKind.i64.wrap (a * b) = a * b := wrap64_id h3 h4
  unfold execOp
  go_simp
/-- Noughts, just made. -/
def zeros (n : Nat) : List Value := cellsOf (List.replicate n (.agg #[.bool false, .slice none 0 0]))
def ZD (n : Nat) : Nat → Pr := fun lo v w => ∃ g, v = .slice (some ⟨g, 0, none⟩) n n ∧ lo ≤ g ∧ w.heap[g]? = some (.cells (zeros n).toArray 36 (0, 0))
theorem fresh_zd (n : Nat) : Fresh (ZD n) :=
  ⟨fun lo lo' v w hl ⟨g, e, h1, h2⟩ => ⟨g, e, Nat.le_trans hl h1, h2⟩, fun lo v w w' B hB ⟨g, e, h1, h2⟩ ev => ⟨g, e, h1, (ev.block g (Array.getElem?_eq_some_iff.1 h2).1 (fun hb => by have := hB g hb; omega)).trans h2⟩⟩
section
variable {ops : Array Oper} {l : List Kd} {bx : Bxs} {sl : List (Tmp × Pr)} {i : Nat} {o : Oper} {Q : Exit → Act → World → Prop} {a0 : Act} {n0 : Nat} {w0 : World}
theorem owe_makeV {x : Operand} {n : Nat} (ho : ops[i]? = some o) (hw : Wants ops l bx sl i o) (hop : o.op = .makeSlice 23 x x) (hx : Opnd ops l bx sl i x (Is (.int .i64 (n : Nat)))) (hn : 32 * n ≤ 281474976710656) (hk : kdAt l i = .val (ZD n w0.heap.size)) : Owed Tryd.prog ops Q l bx sl a0 n0 w0 i :=
  owe_grow ho hw hk fun vs B a w c => by
    have hxv : a.eval x = .int .i64 (n : Nat) := (hx a0 n0 w0 vs B a w c).now
    obtain ⟨i0, hi, hz0, hz1, hz2⟩ := info_parts infoInt
    have hby : ((32 * n : Nat) : Int) ≤ 281474976710656 := by omega
    have hr := run_make (P := Tryd.prog) w 23 36 i0 _ Tryd.underlying23 hi hz0 .i64 .i64 n n (by omega) (Int.le_refl _) (by rw [hz2]; omega) (by omega)
    have hc := made_cells celv_z0 (by decide) n
    have hb : Below w.heap.size w (w.alloc (.cells (zeros n).toArray 36)) := (Below.refl _ _).alloc (Nat.le_refl _) _
    have he : madeCells (Value.agg #[.bool false, .slice none 0 0]).cells (n * 2) = (zeros n).toArray := by
      apply Array.toList_inj.1
      rw [hc]
      rfl
    refine ⟨.slice (some ⟨w.heap.size, 0, none⟩) n n, _, ?_, hb, fun w'' e'' => (fresh_zd n).mono _ _ _ _ c.lo ((fresh_zd n).ev w.heap.size _ _ w'' B (fun k hk => (c.bnd k hk).2) ⟨w.heap.size, rfl, Nat.le_refl _, heap_alloc_last _ _⟩ e'')⟩
    unfold execOp
    rw [hop]
    simp only [hxv, Sem.run_bind, hr, Result.andThen_ok, Sem.run_pure, Int.toNat_natCast, hz1, he]
/-- A call of whose answer the word follows from its arguments' and from new memory. -/
theorem owe_callG2 {f : FuncId} {x y : Operand} {ts : Array TypeId} {φ ψ χ : Pr} (ho : ops[i]? = some o) (hw : Wants ops l bx sl i o) (hop : o.op = .call { callee := .value (.func f), args := #[x, y], argTypes := ts }) (hx : Opnd ops l bx sl i x φ) (hy : Opnd ops l bx sl i y ψ) (hk : kdAt l i = .val χ) (hcf : ∀ args w, (callFunc f args).run Tryd.prog w = .ok (.enter f args) w)
    (C : ∀ w u v, w0.heap.size ≤ w.heap.size → Hs w φ u → Hs w ψ v → Calls Tryd.prog f #[u, v] w fun e w' => ∃ r, e = .returned r ∧ Below w.heap.size w w' ∧ ∀ (B : Nat → Prop) W, (∀ k, B k → k < w.heap.size) → Ev B w' W → φ u W → ψ v W → χ r W) : Owed Tryd.prog ops Q l bx sl a0 n0 w0 i := fun vs B a w c o' ho' => by
  obtain rfl : o = o' := Option.some.inj (ho.symm.trans ho')
  have h1 := hx a0 n0 w0 vs B a w c
  have h2 := hy a0 n0 w0 vs B a w c
  have hr : (execOp a.eval o).run Tryd.prog w = .ok (.enter f #[a.eval x, a.eval y]) w := by
    unfold execOp
    rw [hop]
    have hf : a.eval (.func f) = .func (.func f) #[] #[] := rfl
    generalize a.eval = ρ at hf
    go_simp
  simp only [wpOp, ho]
  rw [if_pos (hw a0 n0 w0 vs B a w c)]
  refine Or.inl ?_
  unfold Oper.wp
  rw [hr, Oper.upon_enter]
  refine (C w _ _ c.lo h1.hs h2.hs).mono ?_
  rintro e w' ⟨r, rfl, hb, hχ⟩
  refine ⟨r, rfl, ?_⟩
  rw [hk]
  have evb := Ev.of_below (B := B) hb
  exact ⟨hb, fun W ev => hχ B W (fun k hk => (c.bnd k hk).2) ev (h1 W (evb.back (fun _ _ h => h) ev)) (h2 W (evb.back (fun _ _ h => h) ev))⟩
end
theorem sng_ar {E sz lo : Nat} {φ : Pr} : ∀ v w, Sng E sz φ lo v w → Ar sz 1 [φ] v w := by
  rintro v w ⟨g, u, rfl, h1, h2, h3, h4⟩
  refine ⟨_, 1, rfl, rfl, ⟨Nat.le_refl _, by unfold maxLen; omega, (fun e => by cases e)⟩, fun i φ' hφ => ?_⟩
  match i, hφ with
  | 0, hφ =>
    simp at hφ
    subst hφ
    refine ⟨g, 0, u, rfl, fun j x hx => ?_, h3.siz, h4⟩
    simp only [World.cell?, h2, Nat.mul_zero, Nat.zero_add]
    simpa using hx
  | i + 1, hφ => simp at hφ
/-- A table of h rows of x numbers in block g, itself in another new block. -/
def Tbl (h x g : Nat) : Nat → Pr := fun lo v w => Rows h g 0 (h * x) (List.replicate h x) lo v w ∧ ∀ b o n c, v = .slice (some ⟨b, o, none⟩) n c → b ≠ g
/-- A blank matrix. -/
def BLK (h x : Nat) : Nat → Pr := fun lo v w => ∃ g, lo ≤ g ∧ w.heap[g]? = some (.cells (zeros (h * x)).toArray 36 (0, 0)) ∧ Tbl h x g lo v w
theorem rows_fresh {n g o C : Nat} {ss : List Nat} : Fresh (Rows n g o C ss) := fresh_lf (by decide) (fun i ψ h => by obtain ⟨j, _, rfl⟩ := map_get h; exact fresh_is _)
theorem sum_rep (h x : Nat) : (List.replicate h x).sum = h * x := by
  induction h with
  | zero => simp
  | succ h ih => rw [List.replicate_succ, List.sum_cons, ih, Nat.add_mul, Nat.one_mul]; omega
theorem cut_blank {h x lo : Nat} (hh : h ≤ 1048576) (hb : 32 * (h * x) ≤ 281474976710656) {W0 : World} (hW : lo = W0.heap.size) : ∀ w u v, W0.heap.size ≤ w.heap.size → Hs w (ZD (h * x) lo) u → Hs w (LF 1 h (List.replicate h (IS (.int .i64 (x : Nat)))) lo) v → Calls Tryd.prog 71 #[u, v] w fun e w' => ∃ r, e = .returned r ∧ Below w.heap.size w w' ∧ ∀ (B : Nat → Prop) W, (∀ k, B k → k < w.heap.size) → Ev B w' W → ZD (h * x) lo u W → LF 1 h (List.replicate h (IS (.int .i64 (x : Nat)))) lo v W → BLK h x lo r W := fun w u v hlo hu hv => by
  obtain ⟨g, rfl, hg1, hg2⟩ := hu.now
  have hglt : g < w.heap.size := (Array.getElem?_eq_some_iff.1 hg2).1
  refine (cut_c w g 0 (h * x) (h * x) h (List.replicate h x) v (by simp) (hv.imp (fun w' hw' => ?_)) (by rw [sum_rep]; exact Nat.le_refl _) (Nat.le_refl _) (by unfold maxLen; omega) hh).mono ?_
  · have := lf_ar v w' hw'
    rw [List.map_replicate] at this ⊢
    exact this
  · rintro e w' ⟨r, rfl, hb', hr⟩
    refine ⟨r, rfl, hb', fun B W hB ev h1 _ => ?_⟩
    obtain ⟨g', e', h3, h4⟩ := h1
    simp only [Value.slice.injEq, Option.some.injEq, Addr.mk.injEq] at e'
    obtain ⟨⟨rfl, _⟩, _⟩ := e'
    have hrW := rows_fresh.ev w.heap.size r w' W B hB hr ev
    exact ⟨g, h3, h4, rows_fresh.mono _ _ _ _ (by omega) hrW, fun b o n c e => by have := hrW.2 b o n c e; omega⟩

/-! The block of a blank matrix becomes the caller's own. -/
theorem rowV_at {h x g i : Nat} (hi : i < h) : ∃ off, rowV g 0 (h * x) (List.replicate h x) i = .slice (some ⟨g, off, none⟩) x x ∧ (0 < x → off = 2 * (i * x)) := by
  have hgd : (List.replicate h x).getD i 0 = x := by rw [List.getD_eq_getElem?_getD, List.getElem?_replicate, if_pos hi]; rfl
  refine ⟨stAt 0 (List.replicate h x) (h * x) i, by unfold rowV; rw [hgd], fun hx => ?_⟩
  have ha : ahead (List.replicate h x) i = i * x := by unfold ahead; rw [List.take_replicate, sum_rep, Nat.min_eq_left (by omega)]
  rw [stAt_pos (by rw [sum_rep]; exact Nat.le_refl _) (by rw [ha]; exact Nat.mul_lt_mul_of_pos_right hi hx), ha]
  omega
theorem tbl_ev {B : Nat → Prop} {h x g lo : Nat} {v : Value} {w w' : World} (ht : Tbl h x g lo v w) (hB : ∀ k, B k → k < lo) (ev : Ev (fun k => B k ∨ k = g) w w') : Tbl h x g lo v w' := by
  obtain ⟨⟨⟨p, c, e, l, hcc, ha⟩, hf⟩, hne⟩ := ht
  refine ⟨⟨⟨p, c, e, l, hcc, fun i φ hφ => ?_⟩, hf⟩, hne⟩
  obtain ⟨b, o, u, rfl, h2, h3, h4⟩ := ha i φ hφ
  have hb := hf b o _ _ e
  have hg := hne b o _ _ e
  refine ⟨b, o, u, rfl, fun j y hy => cell_ev' (h2 j y hy) (fun hk => by rcases hk with hk | hk; have := hB b hk; omega; exact hg hk) ev, h3, ?_⟩
  obtain ⟨ψ, hψ, rfl⟩ := map_get hφ
  obtain ⟨q, hq, rfl⟩ := map_get hψ
  exact h4
theorem Sta.blank {w0 W W' : World} {n : Nat} {bx : Bxs} {sl sl' : List (Tmp × Pr)} {B : Nat → Prop} {a a' : Act} (S : Sta w0 n bx sl B a W) {h x t d : Nat} {v : Value} (hb : Below W.heap.size W W') (hv : BLK h x W.heap.size v W') (hsz : a'.tmps.size = n) (hdf : a'.defers = []) (hd : a'.eval (.tmp d) = v) (hbx : ∀ y ∈ bx, a'.eval (.tmp y.1) = a.eval (.tmp y.1) ∧ y.1 ≠ t) (hsl : ∀ y ∈ sl', y ∈ sl ∧ a'.eval (.tmp y.1) = a.eval (.tmp y.1)) :
    ∃ g, Sta w0 n ((t, Gr g 36 2 (List.replicate (h * x) (Is (.agg #[.bool false, .slice none 0 0])))) :: bx) ((d, Tbl h x g w0.heap.size) :: sl') (fun b => B b ∨ b = g) a' W' := by
  obtain ⟨g, h1, h2, h3⟩ := hv
  refine ⟨g, S.ghost hb t (S0 := fun b => b = g) (C := fun _ => zeros (h * x)) hsz hdf hbx (fun b hb => by subst hb; exact ⟨h1, h2⟩) (fun w' _ => ?_) (fun y hy => ?_)⟩
  · refine ⟨List.replicate (h * x) (.agg #[.bool false, .slice none 0 0]), rfl, by simp, fun u hu => by rw [(List.mem_replicate.1 hu).2]; exact celv_z0, fun i u φ hu hφ => ?_⟩
    rw [(List.mem_replicate.1 (List.mem_of_getElem? hu)).2, (List.mem_replicate.1 (List.mem_of_getElem? hφ)).2]
    rfl
  · rcases List.mem_cons.1 hy with rfl | hy
    · refine Or.inr (fun w' ev => ?_)
      show Tbl h x g w0.heap.size (a'.eval (.tmp d)) w'
      rw [hd]
      obtain ⟨r1, r2⟩ := tbl_ev h3 (fun k hk => (S.bnd k hk).2) ev
      exact ⟨rows_fresh.mono _ _ _ _ S.ent.size r1, r2⟩
    · exact Or.inl (hsl y hy)
/-- The statement 't := blank(x, y)'. -/
theorem wp_blank {P : Program} (hP : P = Tryd.prog) {id h x t ta tb tc td tx ty n : Nat} {ops : Array Oper} {o1 o2 o3 o4 : Oper} {ts : Array TypeId} {Q : Exit → Act → World → Prop} {w0 W : World} {bx : Bxs} {sl : List (Tmp × Pr)} {B : Nat → Prop} {a : Act} (S : Sta w0 n bx sl B a W) (hC : ∀ w, Calls Tryd.prog 53 #[.int .i64 (h : Nat), .int .i64 (x : Nat)] w (Gives (BLK h x) w))
    (hops : ops.toList = [o1, o2, o3, o4]) (d1 : o1.dst = some ta ∧ o1.guard = none ∧ o1.op = .move (.tmp tx)) (d2 : o2.dst = some tb ∧ o2.guard = none ∧ o2.op = .move (.tmp ty)) (d3 : o3.dst = some tc ∧ o3.guard = none ∧ o3.op = .call { callee := .value (.func 53), args := #[.tmp ta, .tmp tb], argTypes := ts }) (d4 : o4.dst = some td ∧ o4.guard = none ∧ o4.op = .assign (.tmp tc))
    (hx : a.eval (.tmp tx) = .int .i64 (h : Nat)) (hy : a.eval (.tmp ty) = .int .i64 (x : Nat)) (hne : ta ≠ ty ∧ ta ≠ tb ∧ ta < n ∧ tb < n ∧ tc < n ∧ td < n) (sl' : List (Tmp × Pr)) (hbx : ∀ y ∈ bx, y.1 ≠ ta ∧ y.1 ≠ tb ∧ y.1 ≠ tc ∧ y.1 ≠ td ∧ y.1 ≠ t) (hsl : ∀ y ∈ sl', y ∈ sl ∧ y.1 ≠ ta ∧ y.1 ≠ tb ∧ y.1 ≠ tc ∧ y.1 ≠ td)
    (k : ∀ g B' a' W', Sta w0 n ((t, Gr g 36 2 (List.replicate (h * x) (Is (.agg #[.bool false, .slice none 0 0])))) :: bx) ((td, Tbl h x g w0.heap.size) :: sl') B' a' W' → Q .normal a' W') : (Code.region id ops false).wp P Q a W := by
  subst hP
  have self : ∀ (a : Act) (d : Tmp) (v : Value), d < a.tmps.size → (a.put (some d) v).eval (.tmp d) = v := fun a d v h => by simp [Act.eval, Act.put, h]
  have far : ∀ (a : Act) (d t : Tmp) (v : Value), t ≠ d → (a.put (some d) v).eval (.tmp t) = a.eval (.tmp t) := fun a d t v h => Act.eval_put (fun d' hd' e => by
    cases hd'
    simp at e
    first | exact h e | exact h e.symm)
  obtain ⟨n1, n2, l1, l2, l3, l4⟩ := hne
  have sz := S.siz
  refine wp_region_list ?_
  rw [hops]
  refine wpl_val (W' := W) (v := .int .i64 (h : Nat)) d1.2.1 (by unfold execOp; rw [d1.2.2, ← hx]; rfl) ?_
  refine wpl_val (W' := W) (v := .int .i64 (x : Nat)) d2.2.1 (by unfold execOp; rw [d2.2.2, ← hy, d1.1, ← far a ta ty (.int .i64 (h : Nat)) (Ne.symm n1)]; rfl) ?_
  rw [d1.1, d2.1]
  have e1 : ((a.put (some ta) (.int .i64 (h : Nat))).put (some tb) (.int .i64 (x : Nat))).eval (.tmp ta) = .int .i64 (h : Nat) := by rw [far _ _ _ _ n2, self _ _ _ (by rw [sz]; exact l1)]
  have e2 : ((a.put (some ta) (.int .i64 (h : Nat))).put (some tb) (.int .i64 (x : Nat))).eval (.tmp tb) = .int .i64 (x : Nat) := self _ _ _ (by rw [put_size, sz]; exact l2)
  refine wpl_call (f := 53) (args := #[.int .i64 (h : Nat), .int .i64 (x : Nat)]) d3.2.1 (by
    unfold execOp
    rw [d3.2.2]
    have hf : ((a.put (some ta) (.int .i64 (h : Nat))).put (some tb) (.int .i64 (x : Nat))).eval (.func 53) = .func (.func 53) #[] #[] := rfl
    generalize ((a.put (some ta) (.int .i64 (h : Nat))).put (some tb) (.int .i64 (x : Nat))).eval = ρ at hf e1 e2
    go_simp) ?_
  refine (hC W).mono ?_
  rintro e W' ⟨v, rfl, hb, hv⟩
  refine ⟨v, rfl, ?_⟩
  rw [d3.1]
  refine wpl_val (W' := W') (v := v) d4.2.1 (by unfold execOp; rw [d4.2.2]; show Result.ok (Next.value (Act.eval _ (.tmp tc))) W' = _; rw [self _ _ _ (by rw [put_size, put_size, sz]; exact l3)]) ?_
  rw [d4.1]
  refine wpList_nil ?_
  have keep : ∀ y, y ≠ ta → y ≠ tb → y ≠ tc → y ≠ td → ((((a.put (some ta) (.int .i64 (h : Nat))).put (some tb) (.int .i64 (x : Nat))).put (some tc) v).put (some td) v).eval (.tmp y) = a.eval (.tmp y) := fun y q1 q2 q3 q4 => by rw [far _ _ _ _ q4, far _ _ _ _ q3, far _ _ _ _ q2, far _ _ _ _ q1]
  obtain ⟨g, S'⟩ := S.blank (t := t) (d := td) (sl' := sl') (a' := (((a.put (some ta) (.int .i64 (h : Nat))).put (some tb) (.int .i64 (x : Nat))).put (some tc) v).put (some td) v) hb hv (by simp only [put_size, sz]) (by simp only [put_defers']; exact S.dfr) (self _ _ _ (by simp only [put_size, sz]; exact l4)) (fun y hy => ⟨keep _ (hbx y hy).1 (hbx y hy).2.1 (hbx y hy).2.2.1 (hbx y hy).2.2.2.1, (hbx y hy).2.2.2.2⟩) (fun y hy => ⟨(hsl y hy).1, keep _ (hsl y hy).2.1 (hsl y hy).2.2.1 (hsl y hy).2.2.2.1 (hsl y hy).2.2.2.2⟩)
  exact k g _ _ _ S'
end Go.Proofs.YtdhjgekbocnnkaaDoor

/-
  mat.blank, mat.filled.
-/
namespace Go.Proofs.YtdhjgekbocnnkaaDoor
open Go Go.RowKit Nt
set_option linter.unusedSimpArgs false
set_option linter.unusedVariables false
set_option maxRecDepth 20000

set_option maxHeartbeats 400000 in
theorem blank_w (w : World) (h x : Nat) (hh : h ≤ 1048576) (hb : 32 * (h * x) ≤ 281474976710656) :
    Calls Tryd.prog 53 #[.int .i64 (h : Nat), .int .i64 (x : Nat)] w (Gives (BLK h x) w) := by
  have hmi : (h : Int) * (x : Int) = ((h * x : Nat) : Int) := (Int.natCast_mul h x).symm
  have hb2 : ((h * x : Nat) : Int) ≤ 8796093022208 := by omega
  refine calls_sta (sl := [(0, (Is (.int .i64 (h : Nat)))), (1, (Is (.int .i64 (x : Nat))))]) Tryd.func53 rfl Tryd.ntmps53 (by simp) (args_cons rfl (is_has _) (args_cons rfl (is_has _) args_nil)) ?_
  intro a0 S0
  refine wp_stmt_seq [.val (Is (.slice none 0 0))] [] [.inl 0, .inr 0, .inr 1] follows S0 rfl (by kernel_rfl) ?_ ?_
  · refine ⟨trivial, ?_⟩
    · exact owe_move rfl (wants_all rfl) (Or.inr rfl) (opnd_const _) rfl
  intro B1 a1 W1 S1
  replace S1 : Sta w 14 [] [(4, (Is (.slice none 0 0))), (0, (Is (.int .i64 (h : Nat)))), (1, (Is (.int .i64 (x : Nat))))] B1 a1 W1 := S1
  refine wp_stmt_seq [.val (Is (.int .i64 (h : Nat))),
      .val (Is (.int .i64 (x : Nat))),
      .val (Is (.int .i64 ((h * x : Nat) : Int))),
      .val (ZD (h * x) w.heap.size),
      .val (Is (.int .i64 (x : Nat))),
      .val (Sng 3 1 (Is (.int .i64 (x : Nat))) w.heap.size),
      .val (Is (.int .i64 (h : Nat))),
      .val ((LF 1 h (List.replicate h (IS (.int .i64 (x : Nat))))) w.heap.size),
      .val (BLK h x w.heap.size),
      .val (BLK h x w.heap.size)] [] [.inl 9] follows S1 rfl (by kernel_rfl) ?_ ?_
  · refine ⟨⟨⟨⟨⟨⟨⟨⟨⟨⟨trivial, ?_⟩, ?_⟩, ?_⟩, ?_⟩, ?_⟩, ?_⟩, ?_⟩, ?_⟩, ?_⟩, ?_⟩
    · exact owe_move rfl (wants_all rfl) (Or.inl rfl) (opnd_slot 1 0 rfl (by kernel_rfl)) rfl
    · exact owe_move rfl (wants_all rfl) (Or.inl rfl) (opnd_slot 2 1 rfl (by kernel_rfl)) rfl
    · exact owe_bin rfl (wants_all rfl) rfl (opnd_op 0 5 (by kernel_rfl) rfl) (opnd_op 1 6 (by kernel_rfl) rfl) rfl (fun ρ w h1 h2 => run_mul_i ρ _ _ _ w _ _ _ ⟨hmi, by omega, by omega⟩ h1 h2)
    · exact owe_makeV rfl (wants_all rfl) rfl (opnd_op 2 7 (by kernel_rfl) rfl) (by omega) rfl
    · exact owe_move rfl (wants_all rfl) (Or.inl rfl) (opnd_slot 2 1 rfl (by kernel_rfl)) rfl
    · exact owe_b1 rfl (wants_all rfl) rfl bld_i1 (opnd_op 4 9 (by kernel_rfl) rfl) (cel_is rfl) rfl
    · exact owe_move rfl (wants_all rfl) (Or.inl rfl) (opnd_slot 1 0 rfl (by kernel_rfl)) rfl
    · exact owe_callh2 rfl (wants_all rfl) rfl ((opnd_op 5 10 (by kernel_rfl) rfl).imp sng_ar) (opnd_op 6 11 (by kernel_rfl) rfl) (fresh_lf (by decide) (fun i ψ h => by rw [(List.mem_replicate.1 (List.mem_of_getElem? h)).2]; exact fresh_is _)) rfl (fun args w => by go_simp) (fun w u0 u1 h0 h1 => by obtain rfl : u1 = _ := h1.now; exact repeat_w w u0 x h h0 hh)
    · exact owe_callG2 rfl (wants_all rfl) rfl (opnd_op 3 8 (by kernel_rfl) rfl) (opnd_op 7 12 (by kernel_rfl) rfl) rfl (fun args w => by go_simp) (cut_blank hh hb rfl)
    · exact owe_move rfl (wants_all rfl) (Or.inr rfl) (opnd_op 8 13 (by kernel_rfl) rfl) rfl
  intro B2 a2 W2 S2
  replace S2 : Sta w 14 [] [(4, (BLK h x w.heap.size))] B2 a2 W2 := S2
  refine wp_ret ?_
  exact end_one S2 rfl (res_tmp S2 0 4 rfl)


theorem tbl_ar {h x g lo : Nat} : ∀ v w, Tbl h x g lo v w → Ar 1 h ((List.range h).map (fun i => Is (rowV g 0 (h * x) (List.replicate h x) i))) v w := fun v w ht => by
  have := lf_ar v w ht.1
  rw [List.map_map] at this
  exact this
theorem tbl_len {h x g lo : Nat} : ∀ v w, Tbl h x g lo v w → ∃ p c, v = .slice p h c := fun v w ht => ar_len v w ht.1.1
theorem div_at {i j x : Nat} (hj : j < x) : (i * x + j) / x = i ∧ (i * x + j) % x = j := by
  constructor
  · rw [Nat.add_comm, Nat.add_mul_div_right _ _ (by omega), Nat.div_eq_of_lt hj]; omega
  · rw [Nat.add_comm, Nat.add_mul_mod_self_right, Nat.mod_eq_of_lt hj]
theorem at_lt {i j h x : Nat} (hi : i < h) (hj : j < x) : i * x + j < h * x := by
  have : (i + 1) * x ≤ h * x := Nat.mul_le_mul_right _ hi
  rw [Nat.add_mul, Nat.one_mul] at this
  omega
/-- The numbers of a matrix, one behind the other. -/
abbrev flat (h x : Nat) (F : Nat → Nat → Int) : List Int := (List.range (h * x)).map (fun p => F (p / x) (p % x))
abbrev grid (h x : Nat) (F : Nat → Nat → Int) : List (List Int) := (List.range h).map (fun i => (List.range x).map (fun j => F i j))
theorem flat_at {h x : Nat} {F : Nat → Nat → Int} {i j : Nat} (hi : i < h) (hj : j < x) : (flat h x F)[i * x + j]? = some (F i j) := by
  rw [flat, List.getElem?_map, List.getElem?_range (at_lt hi hj)]
  obtain ⟨e1, e2⟩ := div_at (i := i) hj
  simp only [Option.map_some, e1, e2]
/-- The rows of a block are a matrix. -/
theorem tbl_mn {h x g lo : Nat} {F : Nat → Nat → Int} {fl : List Int} (hxm : x ≤ maxLen) (hfl : ∀ i j, i < h → j < x → fl[i * x + j]? = some (F i j)) : ∀ v w (C : Nat → List Value), Tbl h x g lo v w → (∀ b, b = g → lo ≤ b ∧ w.heap[b]? = some (.cells (C b).toArray 36 (0, 0))) → CE 2 ((fl.map ZN).map (· lo)) (C g) w → MN h (grid h x F) lo v w := by
  intro v w C ⟨⟨⟨p, c, e, l, hcc, ha⟩, hf⟩, hne⟩ hg ⟨us, hus, hul, hcv, hall⟩
  obtain ⟨hlo, hgc⟩ := hg g rfl
  refine ⟨⟨p, c, e, by simp, hcc, fun i φ hφ => ?_⟩, hf⟩
  obtain ⟨ψ, hψ, rfl⟩ := map_get hφ
  obtain ⟨zs, hzs, rfl⟩ := map_get hψ
  obtain ⟨i', hi', rfl⟩ := map_get hzs
  have hi : i < h := by simpa using (List.getElem?_eq_some_iff.1 hi').1
  rw [List.getElem?_range hi] at hi'
  cases hi'
  obtain ⟨b, o, u, e1, e2, e3, e4⟩ := ha i _ (map_get' (· lo) (map_get' (fun i => IS (rowV g 0 (h * x) (List.replicate h x) i)) (List.getElem?_range hi)))
  refine ⟨b, o, u, e1, e2, e3, ?_⟩
  obtain rfl : u = _ := e4
  obtain ⟨off, hr, hoff⟩ := rowV_at (g := g) (x := x) hi
  rw [hr, List.length_map, List.length_range]
  refine ⟨⟨_, x, rfl, by simp, ⟨Nat.le_refl _, ?_, (fun e => by cases e)⟩, fun j φ' hφ' => ?_⟩, fun b' o' n' c' e' => by cases e'; exact hlo⟩
  · exact hxm
  · obtain ⟨ψ', hψ', rfl⟩ := map_get hφ'
    obtain ⟨z, hz, rfl⟩ := map_get hψ'
    obtain ⟨j', hj', rfl⟩ := map_get hz
    have hj : j < x := by simpa using (List.getElem?_eq_some_iff.1 hj').1
    rw [List.getElem?_range hj] at hj'
    cases hj'
    have hf2 := hfl i j hi hj
    have hlt : i * x + j < us.length := by
      have := (List.getElem?_eq_some_iff.1 hf2).1
      rw [hul]
      simpa using this
    obtain ⟨y, hy⟩ : ∃ y, us[i * x + j]? = some y := ⟨us[i * x + j], List.getElem?_eq_getElem _⟩
    refine ⟨g, off, y, rfl, fun q z hz => ?_, (hcv y (List.mem_of_getElem? hy)).siz, hall _ y _ hy (map_get' (· lo) (map_get' ZN hf2))⟩
    rw [hoff (by omega), show 2 * (i * x) + 2 * j = 2 * (i * x + j) from by omega]
    exact row_cells (cap := us.length) (n := us.length) (cur := (C g).toArray) (by decide) hcv hgc (by rw [hus, ← cellsOf_len hcv]; simp) rfl hy q z hz

set_option maxHeartbeats 2000000 in
theorem filled_w (w : World) (f : Value) (h x : Nat) (F : Nat → Nat → Int) (hf : Hs w (Fn2 ((List.range (h * x)).map (fun p => Is (.int .i64 ((p / x : Nat) : Int)))) ((List.range (h * x)).map (fun p => Is (.int .i64 ((p % x : Nat) : Int)))) ((flat h x F).map ZN)) f) (hh : h ≤ 1048576) (hx : x ≤ 1048576) :
    Calls Tryd.prog 31 #[.int .i64 (h : Nat), .int .i64 (x : Nat), f] w (Gives (MN h (grid h x F)) w) := by
  have hb : 32 * (h * x) ≤ 281474976710656 := by have : h * x ≤ 1048576 * 1048576 := Nat.mul_le_mul hh hx; omega
  have hxm : x ≤ maxLen := by unfold maxLen; omega
  refine calls_sta (sl := [(0, (Is (.int .i64 (h : Nat)))), (1, (Is (.int .i64 (x : Nat)))), (2, (Fn2 ((List.range (h * x)).map (fun p => Is (.int .i64 ((p / x : Nat) : Int)))) ((List.range (h * x)).map (fun p => Is (.int .i64 ((p % x : Nat) : Int)))) ((flat h x F).map ZN)))]) Tryd.func31 rfl Tryd.ntmps31 (by simp) (args_cons rfl (is_has _) (args_cons rfl (is_has _) (args_cons rfl (hf) args_nil))) ?_
  intro a0 S0
  refine wp_stmt_seq [.val (Is (.slice none 0 0))] [] [.inl 0, .inr 0, .inr 1, .inr 2] follows S0 rfl (by kernel_rfl) ?_ ?_
  · refine ⟨trivial, ?_⟩
    · exact owe_move rfl (wants_all rfl) (Or.inr rfl) (opnd_const _) rfl
  intro B1 a1 W1 S1
  replace S1 : Sta w 36 [] [(6, (Is (.slice none 0 0))), (0, (Is (.int .i64 (h : Nat)))), (1, (Is (.int .i64 (x : Nat)))), (2, (Fn2 ((List.range (h * x)).map (fun p => Is (.int .i64 ((p / x : Nat) : Int)))) ((List.range (h * x)).map (fun p => Is (.int .i64 ((p % x : Nat) : Int)))) ((flat h x F).map ZN)))] B1 a1 W1 := S1
  refine wp_seq (wp_blank (h := h) (x := x) (t := 1000000) (ta := 11) (tb := 12) (tc := 13) (td := 7) (tx := 0) (ty := 1) rfl S1 (fun w => blank_w w (h) (x) (hh) (hb)) rfl ⟨rfl, rfl, rfl⟩ ⟨rfl, rfl, rfl⟩ ⟨rfl, rfl, rfl⟩ ⟨rfl, rfl, rfl⟩ (S1.slot 1 0 rfl) (S1.slot 2 1 rfl) (by decide) [(6, (Is (.slice none 0 0))), (2, (Fn2 ((List.range (h * x)).map (fun p => Is (.int .i64 ((p / x : Nat) : Int)))) ((List.range (h * x)).map (fun p => Is (.int .i64 ((p % x : Nat) : Int)))) ((flat h x F).map ZN)))] (by simp) (by simp) ?_)
  intro g B2 a2 W2 S2
  refine thenN ?_
  replace S2 : Sta w 36 [(1000000, (Gr g 36 2 (List.replicate (h * x) (Is (.agg #[.bool false, .slice none 0 0])))))] [(7, ((Tbl h x g) w.heap.size)), (6, (Is (.slice none 0 0))), (2, (Fn2 ((List.range (h * x)).map (fun p => Is (.int .i64 ((p / x : Nat) : Int)))) ((List.range (h * x)).map (fun p => Is (.int .i64 ((p % x : Nat) : Int)))) ((flat h x F).map ZN)))] B2 a2 W2 := S2
  refine wp_seq ?_
  refine wp_stmt_seq [.val ((Tbl h x g) w.heap.size),
      .val (Is (.int .i64 (h : Nat))),
      .val (Is (.int .i64 0))] [.inr 0] [.inl 0, .inl 1, .inl 2, .inr 0, .inr 1, .inr 2] follows S2 rfl (by kernel_rfl) ?_ ?_
  · refine ⟨⟨⟨trivial, ?_⟩, ?_⟩, ?_⟩
    · exact owe_move rfl (wants_all rfl) (Or.inl rfl) (opnd_slot 0 7 rfl (by kernel_rfl)) rfl
    · exact owe_len rfl (wants_all rfl) rfl (opnd_op 0 14 (by kernel_rfl) rfl) tbl_len Tryd.underlying22 rfl
    · exact owe_move rfl (wants_all rfl) (Or.inl rfl) (opnd_const _) rfl
  intro B3 a3 W3 S3
  replace S3 : Sta w 36 [(1000000, (Gr g 36 2 (List.replicate (h * x) (Is (.agg #[.bool false, .slice none 0 0])))))] [(14, ((Tbl h x g) w.heap.size)), (15, (Is (.int .i64 (h : Nat)))), (16, (Is (.int .i64 0))), (7, ((Tbl h x g) w.heap.size)), (6, (Is (.slice none 0 0))), (2, (Fn2 ((List.range (h * x)).map (fun p => Is (.int .i64 ((p / x : Nat) : Int)))) ((List.range (h * x)).map (fun p => Is (.int .i64 ((p % x : Nat) : Int)))) ((flat h x F).map ZN)))] B3 a3 W3 := S3
  refine wp_block ?_
  have hz0 : List.replicate (h * x) (Is (.agg #[.bool false, .slice none 0 0])) = (((flat h x F).map ZN).map (· w.heap.size)).take (0 * x) ++ List.replicate (h * x - (0 * x)) (Is (.agg #[.bool false, .slice none 0 0])) := by rw [Nat.zero_mul]; simp
  rw [hz0] at S3
  refine wp_loop_ghost (fun (i : Nat) a W => (i ≤ h) ∧ ∃ Bq, Sta w 36 [(1000000, (Gr g 36 2 ((((flat h x F).map ZN).map (· w.heap.size)).take (i * x) ++ List.replicate (h * x - (i * x)) (Is (.agg #[.bool false, .slice none 0 0])))))] [(14, ((Tbl h x g) w.heap.size)), (15, (Is (.int .i64 (h : Nat)))), (16, (Is (.int .i64 (i : Nat)))), (7, ((Tbl h x g) w.heap.size)), (2, (Fn2 ((List.range (h * x)).map (fun p => Is (.int .i64 ((p / x : Nat) : Int)))) ((List.range (h * x)).map (fun p => Is (.int .i64 ((p % x : Nat) : Int)))) ((flat h x F).map ZN)))] Bq a W) (fun (i : Nat) => h - i) ?_ 0 ⟨Nat.zero_le _, B3, S3.sub [0] [0, 1, 2, 3, 5]⟩
  rintro i a4 W4 ⟨hcond, B4, S4⟩
  by_cases hlt : i < h
  · obtain ⟨off, hrow, hoff⟩ := rowV_at (g := g) (x := x) hlt
    have hget : ((List.range h).map (fun i => Is (rowV g 0 (h * x) (List.replicate h x) i)))[i]? = some (Is (.slice (some ⟨g, off, none⟩) x x)) := by rw [List.getElem?_map, List.getElem?_range hlt]; simp only [Option.map_some, hrow]
    refine wp_stmt_seq [.val (Is (.bool true))] [.inr 0] [.inl 0, .inr 0, .inr 1, .inr 2, .inr 3, .inr 4] follows S4 rfl (by kernel_rfl) ?_ ?_
    · refine ⟨trivial, ?_⟩
      · exact owe_bin rfl (wants_all rfl) rfl (opnd_slot 2 16 rfl (by kernel_rfl)) (opnd_slot 1 15 rfl (by kernel_rfl)) rfl (fun ρ w h1 h2 => by exact run_lss_int_t ρ _ _ _ w _ _ (by omega) h1 h2)
    intro B5 a5 W5 S5
    replace S5 : Sta w 36 [(1000000, (Gr g 36 2 ((((flat h x F).map ZN).map (· w.heap.size)).take (i * x) ++ List.replicate (h * x - (i * x)) (Is (.agg #[.bool false, .slice none 0 0])))))] [(17, (Is (.bool true))), (14, ((Tbl h x g) w.heap.size)), (15, (Is (.int .i64 (h : Nat)))), (16, (Is (.int .i64 (i : Nat)))), (7, ((Tbl h x g) w.heap.size)), (2, (Fn2 ((List.range (h * x)).map (fun p => Is (.int .i64 ((p / x : Nat) : Int)))) ((List.range (h * x)).map (fun p => Is (.int .i64 ((p % x : Nat) : Int)))) ((flat h x F).map ZN)))] B5 a5 W5 := S5
    refine wp_seq ?_
    refine wp_cond_true (S5.bool 0 17 rfl) ?_
    refine wp_skip ?_
    refine thenN ?_
    refine wp_seq ?_
    refine wp_block ?_
    refine wp_stmt_seq [.val (Is (.int .i64 (i : Nat))),
      .val (AtE 1 (Is (.slice (some ⟨g, off, none⟩) x x))),
      .val (Is (.slice (some ⟨g, off, none⟩) x x)),
      .val (Is (.int .i64 (i : Nat))),
      .val (Is (.slice (some ⟨g, off, none⟩) x x))] [.inr 0] [.inl 3, .inl 4, .inr 0, .inr 1, .inr 2, .inr 3, .inr 4, .inr 5] follows S5 rfl (by kernel_rfl) ?_ ?_
    · refine ⟨⟨⟨⟨⟨trivial, ?_⟩, ?_⟩, ?_⟩, ?_⟩, ?_⟩
      · exact owe_move rfl (wants_all rfl) (Or.inl rfl) (opnd_slot 3 16 rfl (by kernel_rfl)) rfl
      · exact owe_aindex rfl (wants_all rfl) rfl idx_rows ((opnd_slot 1 14 rfl (by kernel_rfl)).imp tbl_ar) (opnd_slot 3 16 rfl (by kernel_rfl)) hget rfl
      · exact owe_aload rfl (wants_all rfl) rfl ldr_row1 (by decide) (cel_is rfl) (opnd_op 1 19 (by kernel_rfl) rfl) rfl
      · exact owe_move rfl (wants_all rfl) (Or.inr rfl) (opnd_op 0 18 (by kernel_rfl) rfl) rfl
      · exact owe_move rfl (wants_all rfl) (Or.inr rfl) (opnd_op 2 20 (by kernel_rfl) rfl) rfl
    intro B6 a6 W6 S6
    replace S6 : Sta w 36 [(1000000, (Gr g 36 2 ((((flat h x F).map ZN).map (· w.heap.size)).take (i * x) ++ List.replicate (h * x - (i * x)) (Is (.agg #[.bool false, .slice none 0 0])))))] [(8, (Is (.int .i64 (i : Nat)))), (9, (Is (.slice (some ⟨g, off, none⟩) x x))), (17, (Is (.bool true))), (14, ((Tbl h x g) w.heap.size)), (15, (Is (.int .i64 (h : Nat)))), (16, (Is (.int .i64 (i : Nat)))), (7, ((Tbl h x g) w.heap.size)), (2, (Fn2 ((List.range (h * x)).map (fun p => Is (.int .i64 ((p / x : Nat) : Int)))) ((List.range (h * x)).map (fun p => Is (.int .i64 ((p % x : Nat) : Int)))) ((flat h x F).map ZN)))] B6 a6 W6 := S6
    refine wp_stmt_seq [.val (Is (.slice (some ⟨g, off, none⟩) x x)),
      .val (Is (.int .i64 (x : Nat))),
      .val (Is (.int .i64 0))] [.inr 0] [.inl 1, .inl 2, .inr 0, .inr 1, .inr 2, .inr 3, .inr 4, .inr 5, .inr 6, .inr 7] follows S6 rfl (by kernel_rfl) ?_ ?_
    · refine ⟨⟨⟨trivial, ?_⟩, ?_⟩, ?_⟩
      · exact owe_move rfl (wants_all rfl) (Or.inl rfl) (opnd_slot 1 9 rfl (by kernel_rfl)) rfl
      · exact owe_len rfl (wants_all rfl) rfl (opnd_op 0 21 (by kernel_rfl) rfl) is_len Tryd.underlying23 rfl
      · exact owe_move rfl (wants_all rfl) (Or.inl rfl) (opnd_const _) rfl
    intro B7 a7 W7 S7
    replace S7 : Sta w 36 [(1000000, (Gr g 36 2 ((((flat h x F).map ZN).map (· w.heap.size)).take (i * x) ++ List.replicate (h * x - (i * x)) (Is (.agg #[.bool false, .slice none 0 0])))))] [(22, (Is (.int .i64 (x : Nat)))), (23, (Is (.int .i64 0))), (8, (Is (.int .i64 (i : Nat)))), (9, (Is (.slice (some ⟨g, off, none⟩) x x))), (17, (Is (.bool true))), (14, ((Tbl h x g) w.heap.size)), (15, (Is (.int .i64 (h : Nat)))), (16, (Is (.int .i64 (i : Nat)))), (7, ((Tbl h x g) w.heap.size)), (2, (Fn2 ((List.range (h * x)).map (fun p => Is (.int .i64 ((p / x : Nat) : Int)))) ((List.range (h * x)).map (fun p => Is (.int .i64 ((p % x : Nat) : Int)))) ((flat h x F).map ZN)))] B7 a7 W7 := S7
    refine wp_block ?_
    refine wp_loop_ghost (fun (j : Nat) a W => (j ≤ x) ∧ ∃ Bq, Sta w 36 [(1000000, (Gr g 36 2 ((((flat h x F).map ZN).map (· w.heap.size)).take (i * x + j) ++ List.replicate (h * x - (i * x + j)) (Is (.agg #[.bool false, .slice none 0 0])))))] [(22, (Is (.int .i64 (x : Nat)))), (23, (Is (.int .i64 (j : Nat)))), (8, (Is (.int .i64 (i : Nat)))), (9, (Is (.slice (some ⟨g, off, none⟩) x x))), (14, ((Tbl h x g) w.heap.size)), (15, (Is (.int .i64 (h : Nat)))), (16, (Is (.int .i64 (i : Nat)))), (7, ((Tbl h x g) w.heap.size)), (2, (Fn2 ((List.range (h * x)).map (fun p => Is (.int .i64 ((p / x : Nat) : Int)))) ((List.range (h * x)).map (fun p => Is (.int .i64 ((p % x : Nat) : Int)))) ((flat h x F).map ZN)))] Bq a W) (fun (j : Nat) => x - j) ?_ 0 ⟨Nat.zero_le _, B7, S7.sub [0] [0, 1, 2, 3, 5, 6, 7, 8, 9]⟩
    rintro j a8 W8 ⟨hcond, B8, S8⟩
    by_cases hj : j < x
    · have ho := hoff (by omega)
      have hlt2 := at_lt hlt hj
      obtain ⟨q1, q2⟩ := div_at (i := i) hj
      have hr := List.getElem?_range hlt2
      have f1 : ((List.range (h * x)).map (fun p => Is (.int .i64 ((p / x : Nat) : Int))))[i * x + j]? = some (Is (.int .i64 (i : Nat))) := by rw [List.getElem?_map, hr]; simp only [Option.map_some, q1]
      have f2 : ((List.range (h * x)).map (fun p => Is (.int .i64 ((p % x : Nat) : Int))))[i * x + j]? = some (Is (.int .i64 (j : Nat))) := by rw [List.getElem?_map, hr]; simp only [Option.map_some, q2]
      have f3 := map_get' ZN (flat_at (F := F) hlt hj)
      have hset := set_next (z := Is (.agg #[.bool false, .slice none 0 0])) (xs := (((flat h x F).map ZN).map (· w.heap.size))) (n := h * x) (by simp) (map_get' (· w.heap.size) f3)
      refine wp_stmt_seq [.val (Is (.bool true))] [.inr 0] [.inl 0, .inr 0, .inr 1, .inr 2, .inr 3, .inr 4, .inr 5, .inr 6, .inr 7, .inr 8] follows S8 rfl (by kernel_rfl) ?_ ?_
      · refine ⟨trivial, ?_⟩
        · exact owe_bin rfl (wants_all rfl) rfl (opnd_slot 1 23 rfl (by kernel_rfl)) (opnd_slot 0 22 rfl (by kernel_rfl)) rfl (fun ρ w h1 h2 => by exact run_lss_int_t ρ _ _ _ w _ _ (by omega) h1 h2)
      intro B9 a9 W9 S9
      replace S9 : Sta w 36 [(1000000, (Gr g 36 2 ((((flat h x F).map ZN).map (· w.heap.size)).take (i * x + j) ++ List.replicate (h * x - (i * x + j)) (Is (.agg #[.bool false, .slice none 0 0])))))] [(24, (Is (.bool true))), (22, (Is (.int .i64 (x : Nat)))), (23, (Is (.int .i64 (j : Nat)))), (8, (Is (.int .i64 (i : Nat)))), (9, (Is (.slice (some ⟨g, off, none⟩) x x))), (14, ((Tbl h x g) w.heap.size)), (15, (Is (.int .i64 (h : Nat)))), (16, (Is (.int .i64 (i : Nat)))), (7, ((Tbl h x g) w.heap.size)), (2, (Fn2 ((List.range (h * x)).map (fun p => Is (.int .i64 ((p / x : Nat) : Int)))) ((List.range (h * x)).map (fun p => Is (.int .i64 ((p % x : Nat) : Int)))) ((flat h x F).map ZN)))] B9 a9 W9 := S9
      refine wp_seq ?_
      refine wp_cond_true (S9.bool 0 24 rfl) ?_
      refine wp_skip ?_
      refine thenN ?_
      refine wp_seq ?_
      refine wp_block ?_
      refine wp_stmt_seq [.val (Is (.int .i64 (j : Nat))),
      .val (Is (.int .i64 (j : Nat)))] [.inr 0] [.inl 1, .inr 0, .inr 1, .inr 2, .inr 3, .inr 4, .inr 5, .inr 6, .inr 7, .inr 8, .inr 9] follows S9 rfl (by kernel_rfl) ?_ ?_
      · refine ⟨⟨trivial, ?_⟩, ?_⟩
        · exact owe_move rfl (wants_all rfl) (Or.inl rfl) (opnd_slot 2 23 rfl (by kernel_rfl)) rfl
        · exact owe_move rfl (wants_all rfl) (Or.inr rfl) (opnd_op 0 25 (by kernel_rfl) rfl) rfl
      intro B10 a10 W10 S10
      replace S10 : Sta w 36 [(1000000, (Gr g 36 2 ((((flat h x F).map ZN).map (· w.heap.size)).take (i * x + j) ++ List.replicate (h * x - (i * x + j)) (Is (.agg #[.bool false, .slice none 0 0])))))] [(10, (Is (.int .i64 (j : Nat)))), (24, (Is (.bool true))), (22, (Is (.int .i64 (x : Nat)))), (23, (Is (.int .i64 (j : Nat)))), (8, (Is (.int .i64 (i : Nat)))), (9, (Is (.slice (some ⟨g, off, none⟩) x x))), (14, ((Tbl h x g) w.heap.size)), (15, (Is (.int .i64 (h : Nat)))), (16, (Is (.int .i64 (i : Nat)))), (7, ((Tbl h x g) w.heap.size)), (2, (Fn2 ((List.range (h * x)).map (fun p => Is (.int .i64 ((p / x : Nat) : Int)))) ((List.range (h * x)).map (fun p => Is (.int .i64 ((p % x : Nat) : Int)))) ((flat h x F).map ZN)))] B10 a10 W10 := S10
      refine wp_stmt [.val (Is (.slice (some ⟨g, off, none⟩) x x)),
      .val (Is (.int .i64 (j : Nat))),
      .val (Fn2 ((List.range (h * x)).map (fun p => Is (.int .i64 ((p / x : Nat) : Int)))) ((List.range (h * x)).map (fun p => Is (.int .i64 ((p % x : Nat) : Int)))) ((flat h x F).map ZN)),
      .val (Is (.int .i64 (i : Nat))),
      .val (Is (.int .i64 (j : Nat))),
      .val ((ZN (F i j)) w.heap.size),
      .val (Is (.pointer (some ⟨g, 2 * (i * x + j), none⟩))),
      .put (.inl 1000000) (Gr g 36 2 ((((flat h x F).map ZN).map (· w.heap.size)).take (i * x + (j + 1)) ++ List.replicate (h * x - (i * x + (j + 1))) (Is (.agg #[.bool false, .slice none 0 0]))))] [.inr 0] [.inr 1, .inr 2, .inr 3, .inr 4, .inr 5, .inr 6, .inr 7, .inr 8, .inr 9, .inr 10] follows S10 rfl (by kernel_rfl) ?_ ?_
      · refine ⟨⟨⟨⟨⟨⟨⟨⟨trivial, ?_⟩, ?_⟩, ?_⟩, ?_⟩, ?_⟩, ?_⟩, ?_⟩, ?_⟩
        · exact owe_move rfl (wants_all rfl) (Or.inl rfl) (opnd_slot 5 9 rfl (by kernel_rfl)) rfl
        · exact owe_move rfl (wants_all rfl) (Or.inl rfl) (opnd_slot 0 10 rfl (by kernel_rfl)) rfl
        · exact owe_move rfl (wants_all rfl) (Or.inl rfl) (opnd_slot 10 2 rfl (by kernel_rfl)) rfl
        · exact owe_move rfl (wants_all rfl) (Or.inl rfl) (opnd_slot 4 8 rfl (by kernel_rfl)) rfl
        · exact owe_move rfl (wants_all rfl) (Or.inl rfl) (opnd_slot 0 10 rfl (by kernel_rfl)) rfl
        · exact owe_callv2 (i * x + j) rfl (wants_all rfl) rfl (opnd_op 2 28 (by kernel_rfl) rfl) f1 f2 f3 (opnd_op 3 29 (by kernel_rfl) rfl) (opnd_op 4 30 (by kernel_rfl) rfl) (fresh_zn _) rfl
        · exact owe_kindex rfl (wants_all rfl) rfl idx_ints (opnd_op 0 26 (by kernel_rfl) rfl) (opnd_op 1 27 (by kernel_rfl) rfl) hj (by omega) rfl
        · exact owe_gstore rfl (wants_all rfl) rfl sto_int (by decide) (opnd_op 6 32 (by kernel_rfl) rfl) (k := 0) rfl (by kernel_rfl) (opnd_op 5 31 (by kernel_rfl) rfl) (cel_shp (by decide) shp_zn) (by simp; omega) (by rw [hset]; rfl)
      intro B11 a11 W11 S11
      replace S11 : Sta w 36 [(1000000, (Gr g 36 2 ((((flat h x F).map ZN).map (· w.heap.size)).take (i * x + (j + 1)) ++ List.replicate (h * x - (i * x + (j + 1))) (Is (.agg #[.bool false, .slice none 0 0])))))] [(24, (Is (.bool true))), (22, (Is (.int .i64 (x : Nat)))), (23, (Is (.int .i64 (j : Nat)))), (8, (Is (.int .i64 (i : Nat)))), (9, (Is (.slice (some ⟨g, off, none⟩) x x))), (14, ((Tbl h x g) w.heap.size)), (15, (Is (.int .i64 (h : Nat)))), (16, (Is (.int .i64 (i : Nat)))), (7, ((Tbl h x g) w.heap.size)), (2, (Fn2 ((List.range (h * x)).map (fun p => Is (.int .i64 ((p / x : Nat) : Int)))) ((List.range (h * x)).map (fun p => Is (.int .i64 ((p % x : Nat) : Int)))) ((flat h x F).map ZN)))] B11 a11 W11 := S11
      refine inBlkN ?_
      refine thenN ?_
      refine wp_stmt [.val (Is (.int .i64 (j + 1 : Nat))),
      .val (Is (.int .i64 (j + 1 : Nat)))] [.inr 0] [.inl 1, .inr 0, .inr 1, .inr 3, .inr 4, .inr 5, .inr 6, .inr 7, .inr 8, .inr 9] follows S11 rfl (by kernel_rfl) ?_ ?_
      · refine ⟨⟨trivial, ?_⟩, ?_⟩
        · exact owe_bin rfl (wants_all rfl) rfl (opnd_slot 2 23 rfl (by kernel_rfl)) (opnd_const _) rfl (fun ρ w h1 h2 => by exact run_add_int ρ _ _ _ w _ _ _ ⟨by omega, by omega, by omega⟩ h1 h2)
        · exact owe_move rfl (wants_all rfl) (Or.inl rfl) (opnd_op 0 33 (by kernel_rfl) rfl) rfl
      intro B12 a12 W12 S12
      replace S12 : Sta w 36 [(1000000, (Gr g 36 2 ((((flat h x F).map ZN).map (· w.heap.size)).take (i * x + (j + 1)) ++ List.replicate (h * x - (i * x + (j + 1))) (Is (.agg #[.bool false, .slice none 0 0])))))] [(23, (Is (.int .i64 (j + 1 : Nat)))), (24, (Is (.bool true))), (22, (Is (.int .i64 (x : Nat)))), (8, (Is (.int .i64 (i : Nat)))), (9, (Is (.slice (some ⟨g, off, none⟩) x x))), (14, ((Tbl h x g) w.heap.size)), (15, (Is (.int .i64 (h : Nat)))), (16, (Is (.int .i64 (i : Nat)))), (7, ((Tbl h x g) w.heap.size)), (2, (Fn2 ((List.range (h * x)).map (fun p => Is (.int .i64 ((p / x : Nat) : Int)))) ((List.range (h * x)).map (fun p => Is (.int .i64 ((p % x : Nat) : Int)))) ((flat h x F).map ZN)))] B12 a12 W12 := S12
      refine thenN ?_
      exact ⟨j + 1, ⟨by omega, B12, S12.sub [0] [2, 0, 3, 4, 5, 6, 7, 8, 9]⟩, by omega⟩
    · have ej : i * x + j = (i + 1) * x := by rw [Nat.add_mul, Nat.one_mul]; omega
      rw [ej] at S8
      refine wp_stmt_seq [.val (Is (.bool false))] [.inr 0] [.inl 0, .inr 0, .inr 1, .inr 2, .inr 3, .inr 4, .inr 5, .inr 6, .inr 7, .inr 8] follows S8 rfl (by kernel_rfl) ?_ ?_
      · refine ⟨trivial, ?_⟩
        · exact owe_bin rfl (wants_all rfl) rfl (opnd_slot 1 23 rfl (by kernel_rfl)) (opnd_slot 0 22 rfl (by kernel_rfl)) rfl (fun ρ w h1 h2 => by exact run_lss_int_f ρ _ _ _ w _ _ (by omega) h1 h2)
      intro B9 a9 W9 S9
      replace S9 : Sta w 36 [(1000000, (Gr g 36 2 ((((flat h x F).map ZN).map (· w.heap.size)).take ((i + 1) * x) ++ List.replicate (h * x - ((i + 1) * x)) (Is (.agg #[.bool false, .slice none 0 0])))))] [(24, (Is (.bool false))), (22, (Is (.int .i64 (x : Nat)))), (23, (Is (.int .i64 (j : Nat)))), (8, (Is (.int .i64 (i : Nat)))), (9, (Is (.slice (some ⟨g, off, none⟩) x x))), (14, ((Tbl h x g) w.heap.size)), (15, (Is (.int .i64 (h : Nat)))), (16, (Is (.int .i64 (i : Nat)))), (7, ((Tbl h x g) w.heap.size)), (2, (Fn2 ((List.range (h * x)).map (fun p => Is (.int .i64 ((p / x : Nat) : Int)))) ((List.range (h * x)).map (fun p => Is (.int .i64 ((p % x : Nat) : Int)))) ((flat h x F).map ZN)))] B9 a9 W9 := S9
      refine wp_seq ?_
      refine wp_cond_false (S9.bool 0 24 rfl) ?_
      refine wp_exit ?_
      refine thenX ?_
      refine thenX ?_
      refine inBlkE ?_
      refine inBlkN ?_
      refine thenN ?_
      refine wp_stmt [.val (Is (.int .i64 (i + 1 : Nat))),
      .val (Is (.int .i64 (i + 1 : Nat)))] [.inr 0] [.inl 1, .inr 0, .inr 1, .inr 2, .inr 3, .inr 4, .inr 5, .inr 6, .inr 8, .inr 9] follows S9 rfl (by kernel_rfl) ?_ ?_
      · refine ⟨⟨trivial, ?_⟩, ?_⟩
        · exact owe_bin rfl (wants_all rfl) rfl (opnd_slot 7 16 rfl (by kernel_rfl)) (opnd_const _) rfl (fun ρ w h1 h2 => by exact run_add_int ρ _ _ _ w _ _ _ ⟨by omega, by omega, by omega⟩ h1 h2)
        · exact owe_move rfl (wants_all rfl) (Or.inl rfl) (opnd_op 0 34 (by kernel_rfl) rfl) rfl
      intro B10 a10 W10 S10
      replace S10 : Sta w 36 [(1000000, (Gr g 36 2 ((((flat h x F).map ZN).map (· w.heap.size)).take ((i + 1) * x) ++ List.replicate (h * x - ((i + 1) * x)) (Is (.agg #[.bool false, .slice none 0 0])))))] [(16, (Is (.int .i64 (i + 1 : Nat)))), (24, (Is (.bool false))), (22, (Is (.int .i64 (x : Nat)))), (23, (Is (.int .i64 (j : Nat)))), (8, (Is (.int .i64 (i : Nat)))), (9, (Is (.slice (some ⟨g, off, none⟩) x x))), (14, ((Tbl h x g) w.heap.size)), (15, (Is (.int .i64 (h : Nat)))), (7, ((Tbl h x g) w.heap.size)), (2, (Fn2 ((List.range (h * x)).map (fun p => Is (.int .i64 ((p / x : Nat) : Int)))) ((List.range (h * x)).map (fun p => Is (.int .i64 ((p % x : Nat) : Int)))) ((flat h x F).map ZN)))] B10 a10 W10 := S10
      refine thenN ?_
      exact ⟨i + 1, ⟨by omega, B10, S10.sub [0] [6, 7, 0, 8, 9]⟩, by omega⟩
  · have ei : i = h := by omega
    have hend := fill_end (z := Is (.agg #[.bool false, .slice none 0 0])) (xs := (((flat h x F).map ZN).map (· w.heap.size))) (n := h * x) (k := i * x) (by simp) (by rw [ei])
    rw [hend] at S4
    refine wp_stmt_seq [.val (Is (.bool false))] [.inr 0] [.inl 0, .inr 0, .inr 1, .inr 2, .inr 3, .inr 4] follows S4 rfl (by kernel_rfl) ?_ ?_
    · refine ⟨trivial, ?_⟩
      · exact owe_bin rfl (wants_all rfl) rfl (opnd_slot 2 16 rfl (by kernel_rfl)) (opnd_slot 1 15 rfl (by kernel_rfl)) rfl (fun ρ w h1 h2 => by exact run_lss_int_f ρ _ _ _ w _ _ (by omega) h1 h2)
    intro B5 a5 W5 S5
    replace S5 : Sta w 36 [(1000000, (Gr g 36 2 ((((flat h x F).map ZN).map (· w.heap.size)))))] [(17, (Is (.bool false))), (14, ((Tbl h x g) w.heap.size)), (15, (Is (.int .i64 (h : Nat)))), (16, (Is (.int .i64 (i : Nat)))), (7, ((Tbl h x g) w.heap.size)), (2, (Fn2 ((List.range (h * x)).map (fun p => Is (.int .i64 ((p / x : Nat) : Int)))) ((List.range (h * x)).map (fun p => Is (.int .i64 ((p % x : Nat) : Int)))) ((flat h x F).map ZN)))] B5 a5 W5 := S5
    refine wp_seq ?_
    refine wp_cond_false (S5.bool 0 17 rfl) ?_
    refine wp_exit ?_
    refine thenX ?_
    refine thenX ?_
    refine inBlkE ?_
    refine thenN ?_
    obtain ⟨B6, S6⟩ : ∃ Bq, Sta w 36 [] [(7, ((MN h (grid h x F)) w.heap.size)), (17, (Is (.bool false))), (14, ((Tbl h x g) w.heap.size)), (15, (Is (.int .i64 (h : Nat)))), (16, (Is (.int .i64 (i : Nat)))), (7, ((Tbl h x g) w.heap.size)), (2, (Fn2 ((List.range (h * x)).map (fun p => Is (.int .i64 ((p / x : Nat) : Int)))) ((List.range (h * x)).map (fun p => Is (.int .i64 ((p % x : Nat) : Int)))) ((flat h x F).map ZN)))] Bq a5 W5 := ⟨_, S5.thaw 0 4 rfl rfl (by simp) (tbl_mn (F := F) (fl := flat h x F) hxm (fun i j hi hj => flat_at hi hj))⟩
    obtain ⟨a6, W6, e1, e2⟩ : ∃ a W, a5 = a ∧ W5 = W := ⟨_, _, rfl, rfl⟩
    rw [e1, e2] at S6 ⊢
    clear e1 e2
    refine wp_stmt_seq [.val ((MN h (grid h x F)) w.heap.size),
      .val ((MN h (grid h x F)) w.heap.size)] [] [.inl 1, .inr 0, .inr 1, .inr 2, .inr 3, .inr 4, .inr 5, .inr 6] follows S6 rfl (by kernel_rfl) ?_ ?_
    · refine ⟨⟨trivial, ?_⟩, ?_⟩
      · exact owe_move rfl (wants_all rfl) (Or.inl rfl) (opnd_slot 0 7 rfl (by kernel_rfl)) rfl
      · exact owe_move rfl (wants_all rfl) (Or.inr rfl) (opnd_op 0 35 (by kernel_rfl) rfl) rfl
    intro B7 a7 W7 S7
    replace S7 : Sta w 36 [] [(6, ((MN h (grid h x F)) w.heap.size)), (7, ((MN h (grid h x F)) w.heap.size)), (17, (Is (.bool false))), (14, ((Tbl h x g) w.heap.size)), (15, (Is (.int .i64 (h : Nat)))), (16, (Is (.int .i64 (i : Nat)))), (7, ((Tbl h x g) w.heap.size)), (2, (Fn2 ((List.range (h * x)).map (fun p => Is (.int .i64 ((p / x : Nat) : Int)))) ((List.range (h * x)).map (fun p => Is (.int .i64 ((p % x : Nat) : Int)))) ((flat h x F).map ZN)))] B7 a7 W7 := S7
    refine wp_ret ?_
    exact end_one S7 rfl (res_tmp S7 0 6 rfl)

end Go.Proofs.YtdhjgekbocnnkaaDoor
