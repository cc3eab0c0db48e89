import Derived.Test.YtbgelajoomneiaaGreatSetH
import Derived.Test.YtbgelajoomneiaaGreatSetD
import Derived.Test.YtbgelajoomneiaaGreatGsB
import Derived.Test.YtbgelajoomneiaaGreatSetV
/-
 Bits: mat's and the document's.
-/
namespace Go.Proofs.YtbgelajoomneiaaGreat
open Go Go.RowKit Nt
set_option linter.unusedSimpArgs false
set_option linter.unusedVariables false
set_option maxRecDepth 20000


theorem Sta.change {w0 W : World} {n : Nat} {bx : Bxs} {sl : List (Tmp × Pr)} {B : Nat → Prop} {a : Act} (S : Sta w0 n bx sl B a W) (k : Nat) {t : Nat} {φ ψ : Pr} (h : sl[k]? = some (t, φ)) (hi : ∀ v w, φ v w → ψ v w) : Sta w0 n bx (sl.set k (t, ψ)) B a W :=
 ⟨S.ent, S.bnd, S.siz, S.dfr, S.box, S.sep, fun x hx => by
  rcases List.mem_or_eq_of_mem_set hx with h1 | h1
  ·exact S.slt x h1
  ·subst h1
   exact fun w' e => hi _ _ (S.slt _ (List.mem_of_getElem? h) w' e)⟩
section
variable {ops : Array Oper} {l : List Kd} {bx : Bxs} {sl : List (Tmp × Pr)} {i : Nat} {o : Oper} {Q : Exit → Act → World → Prop} {a0 : Act} {n : Nat} {w0 : World}
theorem owe_max {x y : Operand} {T : TypeId} {u v r : Value} (ho : ops[i]? = some o) (hw : Wants ops l bx sl i o) (hop : o.op = .call { callee := .builtin .max, args := #[x, y], argTypes := #[T, T] }) (hx : Opnd ops l bx sl i x (Is u)) (hy : Opnd ops l bx sl i y (Is v)) (hk : kdAt l i = .val (Is r))
  (hr : ∀ (ρ : Operand → Value) (w : World), ρ x = u → ρ y = v → (execOp ρ { o with op := .call { callee := .builtin .max, args := #[x, y], argTypes := #[T, T] } }).run Tryz.prog w = .ok (.value r) w) : Owed Tryz.prog ops Q l bx sl a0 n w0 i :=
 owe_is ho hw hk fun vs B a w c => by
  have := hr a.eval w (hx a0 n w0 vs B a w c).now (hy a0 n w0 vs B a w c).now
  rw [← this]
  unfold execOp
  rw [hop]
end
theorem run_max_a (ρ : Operand → Value) (o : Oper) (x y : Operand) (w : World) (a b : Int) (h : a ≤ b) (h1 : ρ x = .int .i64 a) (h2 : ρ y = .int .i64 b) : (execOp ρ { o with op := .call { callee := .builtin .max, args := #[x, y], argTypes := #[3, 3] } }).run Tryz.prog w = .ok (.value (.int .i64 b)) w := by
  unfold execOp
  go_simp
  exact Int.max_eq_right h
theorem run_max_b (ρ : Operand → Value) (o : Oper) (x y : Operand) (w : World) (a b : Int) (h : b ≤ a) (h1 : ρ x = .int .i64 a) (h2 : ρ y = .int .i64 b) : (execOp ρ { o with op := .call { callee := .builtin .max, args := #[x, y], argTypes := #[3, 3] } }).run Tryz.prog w = .ok (.value (.int .i64 a)) w := by
  unfold execOp
  go_simp
  exact Int.max_eq_left h
theorem run_max_int (ρ : Operand → Value) (o : Oper) (x y : Operand) (w : World) (a b r : Int) (h : (a ≤ b ∧ r = b) ∨ (b ≤ a ∧ r = a)) (h1 : ρ x = .int .i64 a) (h2 : ρ y = .int .i64 b) : (execOp ρ { o with op := .call { callee := .builtin .max, args := #[x, y], argTypes := #[3, 3] } }).run Tryz.prog w = .ok (.value (.int .i64 r)) w := by
 rcases h with ⟨h, rfl⟩ | ⟨h, rfl⟩
 ·exact run_max_a ρ o x y w a _ h h1 h2
 ·exact run_max_b ρ o x y w _ b h h1 h2
def mx (l : List Nat) : Nat := l.foldl max 0
theorem mx_take {l : List Nat} {k x : Nat} (h : l[k]? = some x) : mx (l.take (k + 1)) = max (mx (l.take k)) x := by
 rw [List.take_add_one, h]
 simp [mx, List.foldl_append]
def bitsR (r : List Int) : List Nat := r.map (fun z => Go.bitLen z.natAbs)
def bitsM (A : List (List Int)) : List Nat := A.map (fun r => mx (bitsR r))

set_option maxHeartbeats 400000 in
theorem zbits_w (w : World) (s : Bool) (p : Option Addr) (n c : Nat) (xs : List Nat) (h : Sl w p n c xs) (hn : n ≤ 1048576) :
  Calls Tryz.prog 30 #[.agg #[.bool s, .slice p n c]] w (Gives (IS (.int .i64 (Go.bitLen (val xs) : Nat))) w) := by
 refine calls_sta (sl := [(0, (Zx s p n c xs))]) Tryz.func30 rfl Tryz.ntmps30 (by simp) (args_cons rfl (zx_has h) args_nil) ?_
 intro a0 S0
 refine wq [.new (.box 32 (Zx s p n c xs)), .val (iV 0)] [.inl 0] [.inl 1] S0 ?_ ?_
 ·apply jj2
  ·exact owe_box rfl wA rfl (oS 0 0) rfl (fun ρ w h => box_int shp_zx ρ _ _ w h)
  ·exact mC
 intro _ a1 _ (S1 : Sta w 6 [(1, (.box 32 (Zx s p n c xs)))] [(2, iV 0)] _ _ _)
 refine wq [.val (Part a1 1 1), .val (Nx p n c xs), .val (iV (Go.bitLen (val xs) : Nat)), .val (iV (Go.bitLen (val xs) : Nat))] [.inr 0] [.inl 3] S1 ?_ ?_
 ·apply jj4
  ·exact owe_part rfl wA rfl (k := 0) rfl (by kernel_rfl) rfl (fun ρ w b h => part_int1 ρ _ _ w b 0 h)
  ·exact owe_pload rfl wA rfl (oO 0 3) (k := 0) rfl (by kernel_rfl) rfl (fun ρ w b u h1 h2 h3 => pload_mag zx_mag ρ _ _ w b u h1 h2 h3)
  ·exact cc1 wA (qO 1 4 rfl) (fresh_is _) (fun w u h1 => g_bits (by omega) w u ((nx_nv (Nat.le_refl _)) _ _ h1))
  ·exact mO 2 5
 intro _ a2 _ (S2 : Sta w 6 [(1, (.box 32 (Zx s p n c xs)))] [(2, iV (Go.bitLen (val xs) : Nat))] _ _ _)
 refine wp_ret ?_
 exact end_one S2 rfl (res_tmp S2 0 2 rfl)

theorem g_zbits {A : Int} {k : Nat} (hk : k ≤ 1048576) : ∀ w u, Zv A k u w → Calls Tryz.prog 30 #[u] w (Gives (IS (.int .i64 (Go.bitLen A.natAbs : Nat))) w) := by
 rintro w u ⟨s, p, n, c, xs, rfl, h, rfl, hn⟩
 rw [sg_abs]
 exact zbits_w w s p n c xs h (by omega)

set_option maxHeartbeats 400000 in
theorem mbits_w (w : World) (u : Value) (n k : Nat) (A : List (List Int)) (h : Hs w (Mv n A k) u) (hn : n ≤ 1048576) (hs : k ≤ 1048576) (hL : Ml A 1048576) :
  Calls Tryz.prog 13 #[u] w (Gives (IS (.int .i64 (mx (bitsM A) : Nat))) w) := by
 have hA := mv_len h.now
 refine calls_sta (sl := [(0, (Mv n A k))]) Tryz.func13 rfl Tryz.ntmps13 (by simp) (args_cons rfl (h) args_nil) ?_
 intro a0 S0
 refine wq [.val (iV 0)] [] [.inl 0, .inr 0] S0 ?_ ?_
 ·apply jj1
  ·exact mC
 intro _ a1 _ (S1 : Sta w 27 [] [(2, iV 0), (0, Mv n A k)] _ _ _)
 refine wq [.val (iV 0)] [] [.inl 0, .inr 0, .inr 1] S1 ?_ ?_
 ·apply jj1
  ·exact mC
 intro _ a2 _ (S2 : Sta w 27 [] [(3, iV 0), (2, iV 0), (0, Mv n A k)] _ _ _)
 refine wp_seq ?_
 refine wq [.val (Mv n A k), .val (iV (n : Nat)), .val (iV 0)] [] [.inl 0, .inl 1, .inl 2, .inr 0, .inr 1] S2 ?_ ?_
 ·apply jj3
  ·exact mS 2 0
  ·exact owe_len rfl wA rfl (oO 0 8) ar_len Tryz.underlying22 rfl
  ·exact mC
 intro B3 a3 W3 (S3 : Sta w 27 [] [(8, Mv n A k), (9, iV (n : Nat)), (10, iV 0), (3, iV 0), (2, iV 0)] _ _ _)
 refine wp_block ?_
 replace S3 : Sta w 27 [] [(8, Mv n A k), (9, iV (n : Nat)), (10, iV 0), (3, (Is (.int .i64 ((mx ((bitsM A).take 0) : Nat) : Int)))), (2, iV 0)] B3 a3 W3 := S3.change 3 rfl (fun v w e => e)
 refine wp_loop_ghost (fun (k0 : Nat) a W => (k0 ≤ n) ∧ ∃ Bq, Sta w 27 [] [(8, Mv n A k), (9, iV (n : Nat)), (10, iV k0), (3, (Is (.int .i64 ((mx ((bitsM A).take k0) : Nat) : Int))))] Bq a W) (fun (k0 : Nat) => n - k0) ?_ 0 ⟨Nat.zero_le _, B3, S3.sub [] [0, 1, 2, 3]⟩
 rintro k0 a4 _ ⟨hcond, _, S4⟩
 by_cases hlt : k0 < n
 ·obtain ⟨r, hr⟩ : ∃ r, A[k0]? = some r := ⟨A[k0]'(by omega), List.getElem?_eq_getElem _⟩
  have hrl := hL k0 r hr
  have hrow := map_get' (fun zs : List Int => Vv zs.length zs k) hr
  have hmo := mx_take (l := bitsM A) (map_get' (fun r => mx (bitsR r)) hr)
  have hm0 : mx ((bitsR r).take 0) = 0 := rfl
  refine wq [kT] [] [.inl 0, .inr 0, .inr 1, .inr 2, .inr 3] S4 ?_ ?_
  ·apply jj1
   ·exact b_lss_int_t wA (oS 2 10) (oS 1 9)
  intro B5 a5 W5 (S5 : Sta w 27 [] [(11, bT), (8, Mv n A k), (9, iV (n : Nat)), (10, iV k0), (3, (Is (.int .i64 ((mx ((bitsM A).take k0) : Nat) : Int))))] _ _ _)
  refine wp_seq (wp_cond_true (S5.bool 0 11 rfl) (wp_skip (thenN (wp_seq (wp_block ?_)))))
  refine wq [.val (AtE 1 (Vv (r.length) r k)), .val (Vv (r.length) r k), .val (Vv (r.length) r k)] [] [.inl 2, .inr 0, .inr 1, .inr 2, .inr 3, .inr 4] S5 ?_ ?_
  ·apply jj3
   ·exact owe_aindex rfl wA rfl idx_rows (oS 1 8) (oS 3 10) hrow rfl
   ·exact owe_aload rfl wA rfl ldr_row1 (by decide) cel_vv (oO 0 12) rfl
   ·exact mO 1 13
  intro B6 a6 W6 (S6 : Sta w 27 [] [(5, Vv (r.length) r k), (11, bT), (8, Mv n A k), (9, iV (n : Nat)), (10, iV k0), (3, (Is (.int .i64 ((mx ((bitsM A).take k0) : Nat) : Int))))] _ _ _)
  refine wq [.val (Vv (r.length) r k), .val (iV (r.length : Nat)), .val (iV 0)] [] [.inl 0, .inl 1, .inl 2, .inr 1, .inr 2, .inr 3, .inr 4, .inr 5] S6 ?_ ?_
  ·apply jj3
   ·exact mS 0 5
   ·exact owe_len rfl wA rfl (oO 0 14) ar_len Tryz.underlying23 rfl
   ·exact mC
  intro B7 a7 W7 (S7 : Sta w 27 [] [(14, Vv (r.length) r k), (15, iV (r.length : Nat)), (16, iV 0), (11, bT), (8, Mv n A k), (9, iV (n : Nat)), (10, iV k0), (3, (Is (.int .i64 ((mx ((bitsM A).take k0) : Nat) : Int))))] _ _ _)
  refine wp_block ?_
  replace S7 : Sta w 27 [] [(14, Vv (r.length) r k), (15, iV (r.length : Nat)), (16, iV 0), (11, bT), (8, Mv n A k), (9, iV (n : Nat)), (10, iV k0), (3, (Is (.int .i64 ((max (mx ((bitsM A).take k0)) (mx ((bitsR r).take 0)) : Nat) : Int))))] B7 a7 W7 := S7.change 7 rfl (fun v w e => by show v = _; rw [show v = _ from e, hm0, Nat.max_eq_left (Nat.zero_le _)])
  refine wp_loop_ghost (fun (k1 : Nat) a W => (k1 ≤ r.length) ∧ ∃ Bq, Sta w 27 [] [(14, Vv (r.length) r k), (15, iV (r.length : Nat)), (16, iV k1), (8, Mv n A k), (9, iV (n : Nat)), (10, iV k0), (3, (Is (.int .i64 ((max (mx ((bitsM A).take k0)) (mx ((bitsR r).take k1)) : Nat) : Int))))] Bq a W) (fun (k1 : Nat) => r.length - k1) ?_ 0 ⟨Nat.zero_le _, B7, S7.sub [] [0, 1, 2, 4, 5, 6, 7]⟩
  rintro k1 a8 _ ⟨hcond, _, S8⟩
  by_cases hlt1 : k1 < r.length
  ·obtain ⟨z, hz⟩ : ∃ z, r[k1]? = some z := ⟨r[k1]'(by omega), List.getElem?_eq_getElem _⟩
   have hmi := mx_take (l := bitsR r) (map_get' (fun z : Int => Go.bitLen z.natAbs) hz)
   refine wq [kT] [] [.inl 0, .inr 0, .inr 1, .inr 2, .inr 3, .inr 4, .inr 5, .inr 6] S8 ?_ ?_
   ·apply jj1
    ·exact b_lss_int_t wA (oS 2 16) (oS 1 15)
   intro B9 a9 W9 (S9 : Sta w 27 [] [(17, bT), (14, Vv (r.length) r k), (15, iV (r.length : Nat)), (16, iV k1), (8, Mv n A k), (9, iV (n : Nat)), (10, iV k0), (3, (Is (.int .i64 ((max (mx ((bitsM A).take k0)) (mx ((bitsR r).take k1)) : Nat) : Int))))] _ _ _)
   refine wp_seq (wp_cond_true (S9.bool 0 17 rfl) (wp_skip (thenN (wp_seq (wp_block ?_)))))
   refine wq [.val (AtE 2 (Zv z k)), .val (Zv z k), .new (.box 32 zI), .put (.inr 2) (.box 32 (Zv z k))] [.inl 2] [.inr 0, .inr 1, .inr 2, .inr 3, .inr 4, .inr 5, .inr 6, .inr 7] S9 ?_ ?_
   ·apply jj4
    ·exact owe_aindex rfl wA rfl idx_ints (oS 1 14) (oS 3 16) (map_get' _ hz) rfl
    ·exact owe_aload rfl wA rfl ldr_int (by decide) (cel_shp (by decide) shp_zv) (oO 0 18) rfl
    ·exact owe_new rfl wA rfl rfl (fun ρ w => alloc_int ρ _ w)
    ·exact owe_put 2 rfl wA rfl (by kernel_rfl) rfl (oO 1 19) (stores_of strct_int shp_z0 shp_zv) rfl
   intro B10 a10 W10 (S10 : Sta w 27 [(7, (.box 32 (Zv z k)))] [(17, bT), (14, Vv (r.length) r k), (15, iV (r.length : Nat)), (16, iV k1), (8, Mv n A k), (9, iV (n : Nat)), (10, iV k0), (3, (Is (.int .i64 ((max (mx ((bitsM A).take k0)) (mx ((bitsR r).take k1)) : Nat) : Int))))] _ _ _)
   refine wr [.val (Is (.int .i64 ((max (mx ((bitsM A).take k0)) (mx ((bitsR r).take k1)) : Nat) : Int))), .val (Zv z k), .val (iV (Go.bitLen (z).natAbs : Nat)), .val (Is (.int .i64 ((max (mx ((bitsM A).take k0)) (mx ((bitsR r).take (k1 + 1))) : Nat) : Int))), .val (Is (.int .i64 ((max (mx ((bitsM A).take k0)) (mx ((bitsR r).take (k1 + 1))) : Nat) : Int)))] [.inr 0] [.inl 4, .inr 0, .inr 1, .inr 2, .inr 3, .inr 4, .inr 5, .inr 6] S10 ?_ ?_
   ·apply jj5
    ·exact mS 7 3
    ·exact lod 0 wA (loads_of strct_int shp_zv)
    ·exact ch1 wA (qO 1 21 rfl) (fresh_is _) (fun w u0 h0 => (g_zbits (by omega)) w u0 ((fun _ _ h => h) _ _ h0.now))
    ·exact owe_max rfl wA rfl (oO 0 20) (oO 2 22) rfl (fun ρ w h1 h2 => run_max_int ρ _ _ _ w _ _ _ (by omega) h1 h2)
    ·exact mO 3 23
   intro _ a11 _ (S11 : Sta w 27 [(7, (.box 32 (Zv z k)))] [(3, (Is (.int .i64 ((max (mx ((bitsM A).take k0)) (mx ((bitsR r).take (k1 + 1))) : Nat) : Int)))), (17, bT), (14, Vv (r.length) r k), (15, iV (r.length : Nat)), (16, iV k1), (8, Mv n A k), (9, iV (n : Nat)), (10, iV k0)] _ _ _)
   refine inBlkN (thenN ?_)
   refine wr [.val (iV (k1 + 1 : Nat)), .val (iV (k1 + 1 : Nat))] [.inr 0] [.inl 1, .inr 0, .inr 1, .inr 2, .inr 3, .inr 5, .inr 6, .inr 7] S11 ?_ ?_
   ·apply jj2
    ·exact b_add_int wA (oS 4 16) (opnd_const _)
    ·exact mO 0 24
   intro B12 a12 _ (S12 : Sta w 27 [(7, (.box 32 (Zv z k)))] [(16, iV (k1 + 1 : Nat)), (3, (Is (.int .i64 ((max (mx ((bitsM A).take k0)) (mx ((bitsR r).take (k1 + 1))) : Nat) : Int)))), (17, bT), (14, Vv (r.length) r k), (15, iV (r.length : Nat)), (8, Mv n A k), (9, iV (n : Nat)), (10, iV k0)] _ _ _)
   refine thenN ?_
   exact ⟨k1 + 1, ⟨by omega, B12, S12.sub [] [3, 4, 0, 5, 6, 7, 1]⟩, by omega⟩
  ·have hend1 : (bitsR r).take k1 = bitsR r := List.take_of_length_le (by simp [bitsR]; omega)
   have ee : max (mx ((bitsM A).take k0)) (mx ((bitsR r).take k1)) = mx ((bitsM A).take (k0 + 1)) := by rw [hend1, hmo]
   rw [ee] at S8
   refine wq [kF] [] [.inl 0, .inr 0, .inr 1, .inr 2, .inr 3, .inr 4, .inr 5, .inr 6] S8 ?_ ?_
   ·apply jj1
    ·exact b_lss_int_f wA (oS 2 16) (oS 1 15)
   intro B9 a9 W9 (S9 : Sta w 27 [] [(17, bF), (14, Vv (r.length) r k), (15, iV (r.length : Nat)), (16, iV k1), (8, Mv n A k), (9, iV (n : Nat)), (10, iV k0), (3, (Is (.int .i64 ((mx ((bitsM A).take (k0 + 1)) : Nat) : Int))))] _ _ _)
   refine wp_seq (wp_cond_false (S9.bool 0 17 rfl) (wp_exit (thenX (thenX (inBlkE (inBlkN (thenN ?_)))))))
   refine wr [.val (iV (k0 + 1 : Nat)), .val (iV (k0 + 1 : Nat))] [] [.inl 1, .inr 0, .inr 1, .inr 2, .inr 3, .inr 4, .inr 5, .inr 7] S9 ?_ ?_
   ·apply jj2
    ·exact b_add_int wA (oS 6 10) (opnd_const _)
    ·exact mO 0 25
   intro B10 a10 W10 (S10 : Sta w 27 [] [(10, iV (k0 + 1 : Nat)), (17, bF), (14, Vv (r.length) r k), (15, iV (r.length : Nat)), (16, iV k1), (8, Mv n A k), (9, iV (n : Nat)), (3, (Is (.int .i64 ((mx ((bitsM A).take (k0 + 1)) : Nat) : Int))))] _ _ _)
   refine thenN ?_
   exact ⟨k0 + 1, ⟨by omega, B10, S10.sub [] [5, 6, 0, 7]⟩, by omega⟩
 ·have hend : (bitsM A).take k0 = bitsM A := List.take_of_length_le (by simp [bitsM]; omega)
  rw [← hend]
  refine wq [kF] [] [.inl 0, .inr 0, .inr 1, .inr 2, .inr 3] S4 ?_ ?_
  ·apply jj1
   ·exact b_lss_int_f wA (oS 2 10) (oS 1 9)
  intro B5 a5 W5 (S5 : Sta w 27 [] [(11, bF), (8, Mv n A k), (9, iV (n : Nat)), (10, iV k0), (3, (Is (.int .i64 ((mx ((bitsM A).take k0) : Nat) : Int))))] _ _ _)
  refine wp_seq (wp_cond_false (S5.bool 0 11 rfl) (wp_exit (thenX (thenX (inBlkE (thenN ?_))))))
  refine wq [.val (Is (.int .i64 ((mx ((bitsM A).take k0) : Nat) : Int))), .val (Is (.int .i64 ((mx ((bitsM A).take k0) : Nat) : Int)))] [] [.inl 1, .inr 0, .inr 1, .inr 2, .inr 3, .inr 4] S5 ?_ ?_
  ·apply jj2
   ·exact mS 4 3
   ·exact mO 0 26
  intro B6 a6 W6 (S6 : Sta w 27 [] [(2, (Is (.int .i64 ((mx ((bitsM A).take k0) : Nat) : Int)))), (11, bF), (8, Mv n A k), (9, iV (n : Nat)), (10, iV k0), (3, (Is (.int .i64 ((mx ((bitsM A).take k0) : Nat) : Int))))] _ _ _)
  refine wp_ret ?_
  exact end_one S6 rfl (res_tmp S6 0 2 rfl)

end Go.Proofs.YtbgelajoomneiaaGreat

/-
 gso.Of, gso.Valid; the law's awake; GsoNames' walk.
-/
namespace Go.Proofs.YtbgelajoomneiaaGreat
open Go Go.RowKit Nt
set_option linter.unusedSimpArgs false
set_option linter.unusedVariables false
set_option maxRecDepth 20000


theorem dl1 {z : Int} (h : z.natAbs < 4294967296) : (digs z.natAbs).length ≤ 1 := digs_length_le (by simpa using h)
theorem nar_ml {A : List (List Int)} (h : nar A) : Ml A 1048576 := fun i r hr => Nat.le_trans (h i r hr) (by omega)
abbrev qaoh70  : Rk := .box 26 (Is (.agg #[.slice none 0 0, .slice none 0 0]))
set_option maxHeartbeats 400000 in
theorem of_ok (w : World) (u : Value) (n x K : Nat) (Bm : List (List Int)) (h : Hs w (Mv n Bm K) u) (hn0 : 0 < n) (hn : n ≤ 12) (hx : x ≤ 12) (hK0 : 1 ≤ K) (hK : K ≤ 1048576) (lB : Bm.length = n) (hw : nar Bm) (hR : Reg Bm x) (hb : mx (bitsM Bm) ≤ 256) (ok : WdOk Bm n K) (hd : ∀ i, i < n → gwd Bm i ≠ 0) :
  Calls Tryz.prog 5 #[u] w (Gives (TWO (GN n (gwD Bm n) (gwL Bm n)) (IS (.int .i64 0))) w) := by
 refine calls_sta (sl := [(0, (Mv n Bm K))]) Tryz.func5 rfl Tryz.ntmps5 (by simp) (args_cons rfl (h) args_nil) ?_
 intro a0 S0
 refine wq [.new (qaoh70), .val (iV 0)] [.inl 0] [.inr 0] S0 ?_ ?_
 ·apply jj2
  ·exact owe_new rfl wA rfl rfl (fun ρ w => alloc_gso ρ _ w)
  ·exact mC
 intro _ a1 _ (S1 : Sta w 12 [(2, (qaoh70))] [(0, Mv n Bm K)] _ _ _)
 refine wp_seq ?_
 refine wq [.val (Mv n Bm K), .val (iV (mx (bitsM Bm) : Nat)), kF] [.inr 0] [.inl 2, .inr 0] S1 ?_ ?_
 ·apply jj3
  ·exact mS 0 0
  ·exact ch1 wA (qO 0 4 rfl) (fresh_is _) (fun w u h => mbits_w w u n K Bm h (by omega) (by omega) (nar_ml hw))
  ·exact b_gtr_int_f wA (oO 1 5) (opnd_const _)
 intro _ a2 _ (S2 : Sta w 12 [(2, (qaoh70))] [(6, bF), (0, Mv n Bm K)] _ _ _)
 refine wp_cond_false (S2.bool 0 6 rfl) (wp_skip (thenN ?_))
 refine wq [.val (Mv n Bm K), .val ((TWO (GN n (gwD Bm n) (gwL Bm n)) (IS (.int .i64 0))) w.heap.size), .val (SF [((VN (n + 1) (gwD Bm n)) w.heap.size), ((MN n (gwL Bm n)) w.heap.size)]), .val (iV 0), .put (.inl 2) (.box 26 (SF [((VN (n + 1) (gwD Bm n)) w.heap.size), ((MN n (gwL Bm n)) w.heap.size)])), .val (iV 0)] [.inr 0] [.inl 5] S2 ?_ ?_
 ·apply jj6
  ·exact mS 1 0
  ·exact ch1 wA (qO 0 8 rfl) (fresh_two fresh_gn (fresh_is _)) (fun w u h => wide_ok w u n x K Bm h hn0 hn hx hK0 (by omega) lB hw hR ok hd)
  ·exact e20 wA (oO 1 9)
  ·exact e21 wA (oO 1 9)
  ·exact owe_set rfl wA rfl (k := 0) rfl (by kernel_rfl) (oO 2 10) (stores_of strct_gso shp_g0 shp_sf2) rfl
  ·exact mO 3 11
 intro _ a3 _ (S3 : Sta w 12 [(2, (.box 26 (SF [((VN (n + 1) (gwD Bm n)) w.heap.size), ((MN n (gwL Bm n)) w.heap.size)])))] [(3, iV 0)] _ _ _)
 refine wp_ret ?_
 exact end_two S3 rfl (res_cell S3 0 2 rfl strct_gso shp_sf2) (res_tmp S3 0 3 rfl)

abbrev qh9930  : Rk := .box 26 (Is (.agg #[.slice none 0 0, .slice none 0 0]))
set_option maxHeartbeats 400000 in
theorem of_dep (w : World) (u : Value) (n x K : Nat) (Bm : List (List Int)) (h : Hs w (Mv n Bm K) u) (i0 : Nat) (hi0 : i0 < n) (hn0 : 0 < n) (hn : n ≤ 12) (hx : x ≤ 12) (hK0 : 1 ≤ K) (hK : K ≤ 1048576) (lB : Bm.length = n) (hw : nar Bm) (hR : Reg Bm x) (hb : mx (bitsM Bm) ≤ 256) (ok : WdOk Bm (i0 + 1) K) (hd : ∀ i, i < i0 → gwd Bm i ≠ 0) (hz : gwd Bm i0 = 0) :
  Calls Tryz.prog 5 #[u] w (Gives (TWO (IS (.agg #[.slice none 0 0, .slice none 0 0])) (IS (.int .i64 50))) w) := by
 refine calls_sta (sl := [(0, (Mv n Bm K))]) Tryz.func5 rfl Tryz.ntmps5 (by simp) (args_cons rfl (h) args_nil) ?_
 intro a0 S0
 refine wq [.new (qh9930), .val (iV 0)] [.inl 0] [.inr 0] S0 ?_ ?_
 ·apply jj2
  ·exact owe_new rfl wA rfl rfl (fun ρ w => alloc_gso ρ _ w)
  ·exact mC
 intro _ a1 _ (S1 : Sta w 12 [(2, (qh9930))] [(0, Mv n Bm K)] _ _ _)
 refine wp_seq ?_
 refine wq [.val (Mv n Bm K), .val (iV (mx (bitsM Bm) : Nat)), kF] [.inr 0] [.inl 2, .inr 0] S1 ?_ ?_
 ·apply jj3
  ·exact mS 0 0
  ·exact ch1 wA (qO 0 4 rfl) (fresh_is _) (fun w u h => mbits_w w u n K Bm h (by omega) (by omega) (nar_ml hw))
  ·exact b_gtr_int_f wA (oO 1 5) (opnd_const _)
 intro _ a2 _ (S2 : Sta w 12 [(2, (qh9930))] [(6, bF), (0, Mv n Bm K)] _ _ _)
 refine wp_cond_false (S2.bool 0 6 rfl) (wp_skip (thenN ?_))
 refine wq [.val (Mv n Bm K), .val ((TWO (IS (.agg #[.slice none 0 0, .slice none 0 0])) (IS (.int .i64 50))) w.heap.size), .val (Is (.agg #[.slice none 0 0, .slice none 0 0])), .val (iV 50), .put (.inl 2) (qh9930), .val (iV 50)] [.inr 0] [.inl 5] S2 ?_ ?_
 ·apply jj6
  ·exact mS 1 0
  ·exact ch1 wA (qO 0 8 rfl) (fresh_two (fresh_is _) (fresh_is _)) (fun w u h => wide_dep w u n x K Bm h i0 hi0 hn0 hn hx hK0 (by omega) lB hw hR ok hd hz)
  ·exact e20 wA (oO 1 9)
  ·exact e21 wA (oO 1 9)
  ·exact owe_set rfl wA rfl (k := 0) rfl (by kernel_rfl) (oO 2 10) (stores_of strct_gso shp_g0 shp_g0) rfl
  ·exact mO 3 11
 intro _ a3 _ (S3 : Sta w 12 [(2, (qh9930))] [(3, iV 50)] _ _ _)
 refine wp_ret ?_
 exact end_two S3 rfl (res_cell S3 0 2 rfl strct_gso shp_g0) (res_tmp S3 0 3 rfl)

end Go.Proofs.YtbgelajoomneiaaGreat
