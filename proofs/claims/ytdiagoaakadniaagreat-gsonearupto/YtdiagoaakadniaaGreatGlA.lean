import Derived.Test.YtdiagoaakadniaaGreatSetH
import Derived.Test.YtdiagoaakadniaaGreatSetD
import Derived.Test.YtdiagoaakadniaaGreatGsB
import Derived.Test.YtdiagoaakadniaaGreatSetV
namespace Go.Proofs.YtdiagoaakadniaaGreat
open Go Go.RowKit Nt
set_option linter.unusedSimpArgs false
set_option linter.unusedVariables false
set_option maxRecDepth 20000
set_option maxHeartbeats 16000000
theorem Sta.change {w0 W : World} {n : Nat} {bx : Bxs} {sl : List (Tmp × Pr)} {B : Nat → Prop} {a : Act} (S : Sta w0 n bx sl B a W) (k : Nat) {t : Nat} {φ ψ : Pr} (h : sl[k]? = some (t, φ)) (hi : ∀ v w, φ v w → ψ v w) : Sta w0 n bx (sl.set k (t, ψ)) B a W :=
 ⟨S.ent, S.bnd, S.siz, S.dfr, S.box, S.sep, fun x hx => by
  rcases List.mem_or_eq_of_mem_set hx with h1 | h1
  ·exact S.slt x h1
  ·subst h1
   exact fun w' e => hi _ _ (S.slt _ (List.mem_of_getElem? h) w' e)⟩
section
variable {ops : Array Oper} {l : List Kd} {bx : Bxs} {sl : List (Tmp × Pr)} {i : Nat} {o : Oper} {Q : Exit → Act → World → Prop} {a0 : Act} {n : Nat} {w0 : World}
theorem owe_max {x y : Operand} {T : TypeId} {u v r : Value} (ho : ops[i]? = some o) (hw : Wants ops l bx sl i o) (hop : o.op = .call { callee := .builtin .max, args := #[x, y], argTypes := #[T, T] }) (hx : Opnd ops l bx sl i x (Is u)) (hy : Opnd ops l bx sl i y (Is v)) (hk : kdAt l i = .val (Is r))
  (hr : ∀ (ρ : Operand → Value) (w : World), ρ x = u → ρ y = v → (execOp ρ { o with op := .call { callee := .builtin .max, args := #[x, y], argTypes := #[T, T] } }).run Tryz.prog w = .ok (.value r) w) : Owed Tryz.prog ops Q l bx sl a0 n w0 i :=
 yhr ho hw hk fun vs B a w c => by
  have := hr a.eval w (hx a0 n w0 vs B a w c).now (hy a0 n w0 vs B a w c).now
  rw [← this]
  unfold execOp
  rw [hop]
end
theorem run_max_a (ρ : Operand → Value) (o : Oper) (x y : Operand) (w : World) (a b : Int) (h : a ≤ b) (h1 : ρ x = .int .i64 a) (h2 : ρ y = .int .i64 b) : (execOp ρ { o with op := .call { callee := .builtin .max, args := #[x, y], argTypes := #[3, 3] } }).run Tryz.prog w = .ok (.value (.int .i64 b)) w := by
  unfold execOp
  go_simp
  exact Int.max_eq_right h
theorem run_max_b (ρ : Operand → Value) (o : Oper) (x y : Operand) (w : World) (a b : Int) (h : b ≤ a) (h1 : ρ x = .int .i64 a) (h2 : ρ y = .int .i64 b) : (execOp ρ { o with op := .call { callee := .builtin .max, args := #[x, y], argTypes := #[3, 3] } }).run Tryz.prog w = .ok (.value (.int .i64 a)) w := by
  unfold execOp
  go_simp
  exact Int.max_eq_left h
theorem yos (ρ : Operand → Value) (o : Oper) (x y : Operand) (w : World) (a b r : Int) (h : (a ≤ b ∧ r = b) ∨ (b ≤ a ∧ r = a)) (h1 : ρ x = .int .i64 a) (h2 : ρ y = .int .i64 b) : (execOp ρ { o with op := .call { callee := .builtin .max, args := #[x, y], argTypes := #[3, 3] } }).run Tryz.prog w = .ok (.value (.int .i64 r)) w := by
 rcases h with ⟨h, rfl⟩ | ⟨h, rfl⟩
 ·exact run_max_a ρ o x y w a _ h h1 h2
 ·exact run_max_b ρ o x y w _ b h h1 h2
def mx (l : List Nat) : Nat := l.foldl max 0
theorem mx_take {l : List Nat} {k x : Nat} (h : l[k]? = some x) : mx (l.take (k + 1)) = max (mx (l.take k)) x := by
 rw [List.take_add_one, h]
 simp [mx, List.foldl_append]
def bitsR (r : List Int) : List Nat := r.map (fun z => Go.bitLen z.natAbs)
def bitsM (A : List (List Int)) : List Nat := A.map (fun r => mx (bitsR r))
theorem zbits_w (w : World) (s : Bool) (p : Option Addr) (n c : Nat) (xs : List Nat) (h : Sl w p n c xs) (hn : n ≤ 1048576) :
  Calls Tryz.prog 63 #[.agg #[.bool s, .slice p n c]] w (Gives (IS (.int .i64 (Go.bitLen (val xs) : Nat))) w) := by
 refine yam (sl := [(0, (Zx s p n c xs))]) Tryz.func63 rfl Tryz.ntmps63 (by simp) (yab rfl (zx_has h) yaq) ?_
 intro a0 S0
 refine wq [.new (.box 26 (Zx s p n c xs)), .val (iV 0)] [.inl 0] [.inl 1] S0 ?_ ?_
 ·apply jj2
  ·exact ycr rfl wA rfl (oS 0 0) rfl (fun ρ w h => yg3 shp_zx ρ _ _ w h)
  ·exact mC
 intro _ a1 _ (S1 : Sta w 6 [(1, (.box 26 (Zx s p n c xs)))] [(2, iV 0)] _ _ _)
 refine wq [.val (Part a1 1 1), .val (Nx p n c xs), .val (iV (Go.bitLen (val xs) : Nat)), .val (iV (Go.bitLen (val xs) : Nat))] [.inr 0] [.inl 3] S1 ?_ ?_
 ·apply jj4
  ·exact ya2 rfl wA rfl (k := 0) rfl (by kernel_rfl) rfl (fun ρ w b h => ygu ρ _ _ w b 0 h)
  ·exact yav rfl wA rfl (oO 0 3) (k := 0) rfl (by kernel_rfl) rfl (fun ρ w b u h1 h2 h3 => yi4 zx_mag ρ _ _ w b u h1 h2 h3)
  ·exact cc1 wA (qO 1 4 rfl) (yak _) (fun w u h1 => g_bits (by omega) w u ((nx_nv (Nat.le_refl _)) _ _ h1))
  ·exact mO 2 5
 intro _ a2 _ (S2 : Sta w 6 [(1, (.box 26 (Zx s p n c xs)))] [(2, iV (Go.bitLen (val xs) : Nat))] _ _ _)
 refine wp_ret ?_
 exact ybe S2 rfl (yay S2 0 2 rfl)
theorem g_zbits {A : Int} {k : Nat} (hk : k ≤ 1048576) : ∀ w u, Zv A k u w → Calls Tryz.prog 63 #[u] w (Gives (IS (.int .i64 (Go.bitLen A.natAbs : Nat))) w) := by
 rintro w u ⟨s, p, n, c, xs, rfl, h, rfl, hn⟩
 rw [sg_abs]
 exact zbits_w w s p n c xs h (by omega)
theorem yk9 (w : World) (u : Value) (n k : Nat) (A : List (List Int)) (h : Hs w (Mv n A k) u) (hn : n ≤ 1048576) (hs : k ≤ 1048576) (hL : Ml A 1048576) :
  Calls Tryz.prog 37 #[u] w (Gives (IS (.int .i64 (mx (bitsM A) : Nat))) w) := by
 have hA := mv_len h.now
 refine yam (sl := [(0, (Mv n A k))]) Tryz.func37 rfl Tryz.ntmps37 (by simp) (yab rfl (h) yaq) ?_
 intro a0 S0
 refine wq [.val (iV 0)] [] [.inl 0, .inr 0] S0 ?_ ?_
 ·apply jj1
  ·exact mC
 intro _ a1 _ (S1 : Sta w 27 [] [(2, iV 0), (0, Mv n A k)] _ _ _)
 refine wq [.val (iV 0)] [] [.inl 0, .inr 0, .inr 1] S1 ?_ ?_
 ·apply jj1
  ·exact mC
 intro _ a2 _ (S2 : Sta w 27 [] [(3, iV 0), (2, iV 0), (0, Mv n A k)] _ _ _)
 refine wp_seq ?_
 refine wq [.val (Mv n A k), .val (iV (n : Nat)), .val (iV 0)] [] [.inl 0, .inl 1, .inl 2, .inr 0, .inr 1] S2 ?_ ?_
 ·apply jj3
  ·exact mS 2 0
  ·exact yal rfl wA rfl (oO 0 8) yaw Tryz.underlying22 rfl
  ·exact mC
 intro B3 a3 W3 (S3 : Sta w 27 [] [(8, Mv n A k), (9, iV (n : Nat)), (10, iV 0), (3, iV 0), (2, iV 0)] _ _ _)
 refine wp_block ?_
 replace S3 : Sta w 27 [] [(8, Mv n A k), (9, iV (n : Nat)), (10, iV 0), (3, (Is (.int .i64 ((mx ((bitsM A).take 0) : Nat) : Int)))), (2, iV 0)] B3 a3 W3 := S3.change 3 rfl (fun v w e => e)
 refine yan (fun (k0 : Nat) a W => (k0 ≤ n) ∧ ∃ Bq, Sta w 27 [] [(8, Mv n A k), (9, iV (n : Nat)), (10, iV k0), (3, (Is (.int .i64 ((mx ((bitsM A).take k0) : Nat) : Int))))] Bq a W) (fun (k0 : Nat) => n - k0) ?_ 0 ⟨Nat.zero_le _, B3, S3.sub [] [0, 1, 2, 3]⟩
 rintro k0 a4 _ ⟨hcond, _, S4⟩
 by_cases hlt : k0 < n
 ·obtain ⟨r, hr⟩ : ∃ r, A[k0]? = some r := ⟨A[k0]'(by omega), List.getElem?_eq_getElem _⟩
  have hrl := hL k0 r hr
  have hrow := yas (fun zs : List Int => Vv zs.length zs k) hr
  have hmo := mx_take (l := bitsM A) (yas (fun r => mx (bitsR r)) hr)
  have hm0 : mx ((bitsR r).take 0) = 0 := rfl
  refine wq [kT] [] [.inl 0, .inr 0, .inr 1, .inr 2, .inr 3] S4 ?_ ?_
  ·apply jj1
   ·exact yar wA (oS 2 10) (oS 1 9)
  intro B5 a5 W5 (S5 : Sta w 27 [] [(11, bT), (8, Mv n A k), (9, iV (n : Nat)), (10, iV k0), (3, (Is (.int .i64 ((mx ((bitsM A).take k0) : Nat) : Int))))] _ _ _)
  refine wp_seq (wp_cond_true (S5.bool 0 11 rfl) (wp_skip (thenN (wp_seq (wp_block ?_)))))
  refine wq [.val (AtE 1 (Vv (r.length) r k)), .val (Vv (r.length) r k), .val (Vv (r.length) r k)] [] [.inl 2, .inr 0, .inr 1, .inr 2, .inr 3, .inr 4] S5 ?_ ?_
  ·apply jj3
   ·exact yae rfl wA rfl ya8 (oS 1 8) (oS 3 10) hrow rfl
   ·exact yag rfl wA rfl ya9 (by decide) yb3 (oO 0 12) rfl
   ·exact mO 1 13
  intro B6 a6 W6 (S6 : Sta w 27 [] [(5, Vv (r.length) r k), (11, bT), (8, Mv n A k), (9, iV (n : Nat)), (10, iV k0), (3, (Is (.int .i64 ((mx ((bitsM A).take k0) : Nat) : Int))))] _ _ _)
  refine wq [.val (Vv (r.length) r k), .val (iV (r.length : Nat)), .val (iV 0)] [] [.inl 0, .inl 1, .inl 2, .inr 1, .inr 2, .inr 3, .inr 4, .inr 5] S6 ?_ ?_
  ·apply jj3
   ·exact mS 0 5
   ·exact yal rfl wA rfl (oO 0 14) yaw Tryz.underlying39 rfl
   ·exact mC
  intro B7 a7 W7 (S7 : Sta w 27 [] [(14, Vv (r.length) r k), (15, iV (r.length : Nat)), (16, iV 0), (11, bT), (8, Mv n A k), (9, iV (n : Nat)), (10, iV k0), (3, (Is (.int .i64 ((mx ((bitsM A).take k0) : Nat) : Int))))] _ _ _)
  refine wp_block ?_
  replace S7 : Sta w 27 [] [(14, Vv (r.length) r k), (15, iV (r.length : Nat)), (16, iV 0), (11, bT), (8, Mv n A k), (9, iV (n : Nat)), (10, iV k0), (3, (Is (.int .i64 ((max (mx ((bitsM A).take k0)) (mx ((bitsR r).take 0)) : Nat) : Int))))] B7 a7 W7 := S7.change 7 rfl (fun v w e => by show v = _; rw [show v = _ from e, hm0, Nat.max_eq_left (Nat.zero_le _)])
  refine yan (fun (k1 : Nat) a W => (k1 ≤ r.length) ∧ ∃ Bq, Sta w 27 [] [(14, Vv (r.length) r k), (15, iV (r.length : Nat)), (16, iV k1), (8, Mv n A k), (9, iV (n : Nat)), (10, iV k0), (3, (Is (.int .i64 ((max (mx ((bitsM A).take k0)) (mx ((bitsR r).take k1)) : Nat) : Int))))] Bq a W) (fun (k1 : Nat) => r.length - k1) ?_ 0 ⟨Nat.zero_le _, B7, S7.sub [] [0, 1, 2, 4, 5, 6, 7]⟩
  rintro k1 a8 _ ⟨hcond, _, S8⟩
  by_cases hlt1 : k1 < r.length
  ·obtain ⟨z, hz⟩ : ∃ z, r[k1]? = some z := ⟨r[k1]'(by omega), List.getElem?_eq_getElem _⟩
   have hmi := mx_take (l := bitsR r) (yas (fun z : Int => Go.bitLen z.natAbs) hz)
   refine wq [kT] [] [.inl 0, .inr 0, .inr 1, .inr 2, .inr 3, .inr 4, .inr 5, .inr 6] S8 ?_ ?_
   ·apply jj1
    ·exact yar wA (oS 2 16) (oS 1 15)
   intro B9 a9 W9 (S9 : Sta w 27 [] [(17, bT), (14, Vv (r.length) r k), (15, iV (r.length : Nat)), (16, iV k1), (8, Mv n A k), (9, iV (n : Nat)), (10, iV k0), (3, (Is (.int .i64 ((max (mx ((bitsM A).take k0)) (mx ((bitsR r).take k1)) : Nat) : Int))))] _ _ _)
   refine wp_seq (wp_cond_true (S9.bool 0 17 rfl) (wp_skip (thenN (wp_seq (wp_block ?_)))))
   refine wq [.val (AtE 2 (Zv z k)), .val (Zv z k), .new (.box 26 zI), .put (.inr 2) (.box 26 (Zv z k))] [.inl 2] [.inr 0, .inr 1, .inr 2, .inr 3, .inr 4, .inr 5, .inr 6, .inr 7] S9 ?_ ?_
   ·apply jj4
    ·exact yae rfl wA rfl yby (oS 1 14) (oS 3 16) (yas _ hz) rfl
    ·exact yag rfl wA rfl ycp (by decide) (ya5 (by decide) ybc) (oO 0 18) rfl
    ·exact yat rfl wA rfl rfl (fun ρ w => ybi ρ _ w)
    ·exact ybj 2 rfl wA rfl (by kernel_rfl) rfl (oO 1 19) (yaf yaj ycn ybc) rfl
   intro B10 a10 W10 (S10 : Sta w 27 [(7, (.box 26 (Zv z k)))] [(17, bT), (14, Vv (r.length) r k), (15, iV (r.length : Nat)), (16, iV k1), (8, Mv n A k), (9, iV (n : Nat)), (10, iV k0), (3, (Is (.int .i64 ((max (mx ((bitsM A).take k0)) (mx ((bitsR r).take k1)) : Nat) : Int))))] _ _ _)
   refine wr [.val (Is (.int .i64 ((max (mx ((bitsM A).take k0)) (mx ((bitsR r).take k1)) : Nat) : Int))), .val (Zv z k), .val (iV (Go.bitLen (z).natAbs : Nat)), .val (Is (.int .i64 ((max (mx ((bitsM A).take k0)) (mx ((bitsR r).take (k1 + 1))) : Nat) : Int))), .val (Is (.int .i64 ((max (mx ((bitsM A).take k0)) (mx ((bitsR r).take (k1 + 1))) : Nat) : Int)))] [.inr 0] [.inl 4, .inr 0, .inr 1, .inr 2, .inr 3, .inr 4, .inr 5, .inr 6] S10 ?_ ?_
   ·apply jj5
    ·exact mS 7 3
    ·exact lod 0 wA (yau yaj ybc)
    ·exact ch1 wA (qO 1 21 rfl) (yak _) (fun w u0 h0 => (g_zbits (by omega)) w u0 ((fun _ _ h => h) _ _ h0.now))
    ·exact owe_max rfl wA rfl (oO 0 20) (oO 2 22) rfl (fun ρ w h1 h2 => yos ρ _ _ _ w _ _ _ (by omega) h1 h2)
    ·exact mO 3 23
   intro _ a11 _ (S11 : Sta w 27 [(7, (.box 26 (Zv z k)))] [(3, (Is (.int .i64 ((max (mx ((bitsM A).take k0)) (mx ((bitsR r).take (k1 + 1))) : Nat) : Int)))), (17, bT), (14, Vv (r.length) r k), (15, iV (r.length : Nat)), (16, iV k1), (8, Mv n A k), (9, iV (n : Nat)), (10, iV k0)] _ _ _)
   refine inBlkN (thenN ?_)
   refine wr [.val (iV (k1 + 1 : Nat)), .val (iV (k1 + 1 : Nat))] [.inr 0] [.inl 1, .inr 0, .inr 1, .inr 2, .inr 3, .inr 5, .inr 6, .inr 7] S11 ?_ ?_
   ·apply jj2
    ·exact ya3 wA (oS 4 16) (yaa _)
    ·exact mO 0 24
   intro B12 a12 _ (S12 : Sta w 27 [(7, (.box 26 (Zv z k)))] [(16, iV (k1 + 1 : Nat)), (3, (Is (.int .i64 ((max (mx ((bitsM A).take k0)) (mx ((bitsR r).take (k1 + 1))) : Nat) : Int)))), (17, bT), (14, Vv (r.length) r k), (15, iV (r.length : Nat)), (8, Mv n A k), (9, iV (n : Nat)), (10, iV k0)] _ _ _)
   refine thenN ?_
   exact ⟨k1 + 1, ⟨by omega, B12, S12.sub [] [3, 4, 0, 5, 6, 7, 1]⟩, by omega⟩
  ·have hend1 : (bitsR r).take k1 = bitsR r := List.take_of_length_le (by simp [bitsR]; omega)
   have ee : max (mx ((bitsM A).take k0)) (mx ((bitsR r).take k1)) = mx ((bitsM A).take (k0 + 1)) := by rw [hend1, hmo]
   rw [ee] at S8
   refine wq [kF] [] [.inl 0, .inr 0, .inr 1, .inr 2, .inr 3, .inr 4, .inr 5, .inr 6] S8 ?_ ?_
   ·apply jj1
    ·exact yaz wA (oS 2 16) (oS 1 15)
   intro B9 a9 W9 (S9 : Sta w 27 [] [(17, bF), (14, Vv (r.length) r k), (15, iV (r.length : Nat)), (16, iV k1), (8, Mv n A k), (9, iV (n : Nat)), (10, iV k0), (3, (Is (.int .i64 ((mx ((bitsM A).take (k0 + 1)) : Nat) : Int))))] _ _ _)
   refine wp_seq (wp_cond_false (S9.bool 0 17 rfl) (wp_exit (thenX (thenX (inBlkE (inBlkN (thenN ?_)))))))
   refine wr [.val (iV (k0 + 1 : Nat)), .val (iV (k0 + 1 : Nat))] [] [.inl 1, .inr 0, .inr 1, .inr 2, .inr 3, .inr 4, .inr 5, .inr 7] S9 ?_ ?_
   ·apply jj2
    ·exact ya3 wA (oS 6 10) (yaa _)
    ·exact mO 0 25
   intro B10 a10 W10 (S10 : Sta w 27 [] [(10, iV (k0 + 1 : Nat)), (17, bF), (14, Vv (r.length) r k), (15, iV (r.length : Nat)), (16, iV k1), (8, Mv n A k), (9, iV (n : Nat)), (3, (Is (.int .i64 ((mx ((bitsM A).take (k0 + 1)) : Nat) : Int))))] _ _ _)
   refine thenN ?_
   exact ⟨k0 + 1, ⟨by omega, B10, S10.sub [] [5, 6, 0, 7]⟩, by omega⟩
 ·have hend : (bitsM A).take k0 = bitsM A := List.take_of_length_le (by simp [bitsM]; omega)
  rw [← hend]
  refine wq [kF] [] [.inl 0, .inr 0, .inr 1, .inr 2, .inr 3] S4 ?_ ?_
  ·apply jj1
   ·exact yaz wA (oS 2 10) (oS 1 9)
  intro B5 a5 W5 (S5 : Sta w 27 [] [(11, bF), (8, Mv n A k), (9, iV (n : Nat)), (10, iV k0), (3, (Is (.int .i64 ((mx ((bitsM A).take k0) : Nat) : Int))))] _ _ _)
  refine wp_seq (wp_cond_false (S5.bool 0 11 rfl) (wp_exit (thenX (thenX (inBlkE (thenN ?_))))))
  refine wq [.val (Is (.int .i64 ((mx ((bitsM A).take k0) : Nat) : Int))), .val (Is (.int .i64 ((mx ((bitsM A).take k0) : Nat) : Int)))] [] [.inl 1, .inr 0, .inr 1, .inr 2, .inr 3, .inr 4] S5 ?_ ?_
  ·apply jj2
   ·exact mS 4 3
   ·exact mO 0 26
  intro B6 a6 W6 (S6 : Sta w 27 [] [(2, (Is (.int .i64 ((mx ((bitsM A).take k0) : Nat) : Int)))), (11, bF), (8, Mv n A k), (9, iV (n : Nat)), (10, iV k0), (3, (Is (.int .i64 ((mx ((bitsM A).take k0) : Nat) : Int))))] _ _ _)
  refine wp_ret ?_
  exact ybe S6 rfl (yay S6 0 2 rfl)
theorem dl1 {z : Int} (h : z.natAbs < 4294967296) : (digs z.natAbs).length ≤ 1 := ya4 (by simpa using h)
theorem tk_ok0 {D L M : List Int} {z : Int} (h : z.natAbs < 4294967296) : TkOk D L M z 0 1 := ⟨fun k hk => by omega, fun k hk => by omega, fun k hk => by
 obtain rfl : k = 0 := by omega
 exact dl1 h⟩
theorem tk_ok1 {D L M : List Int} {z : Int} (h : z.natAbs < 4294967296) (h0 : D.getD 0 0 ≠ 0) (hx : rm (D.getD 1 0 * z - L.getD 0 0 * M.getD 0 0) (D.getD 0 0) = 0) (h1 : (tk D L M z 1).natAbs < 4294967296) : TkOk D L M z 1 1 := by
 refine ⟨fun k hk => ?_, fun k hk => ?_, fun k hk => ?_⟩
 ·obtain rfl : k = 0 := by omega
  exact h0
 ·obtain rfl : k = 0 := by omega
  exact hx
 ·match k, hk with
  | 0, _ => exact dl1 h
  | 1, _ => exact dl1 h1
theorem lf_ok0 {D : List Int} {L Bm : List (List Int)} {R : List Int} (h : (dotR R R).natAbs < 4294967296) : LfOk D L Bm R 0 1 := ⟨fun j hj => by omega, tk_ok0 h⟩
theorem lf_ok1 {D : List Int} {L Bm : List (List Int)} {R : List Int} (h0 : (dotR R (Bm.getD 0 [])).natAbs < 4294967296) (h : TkOk D (lfL D L Bm R 1) (lfL D L Bm R 1) (dotR R R) 1 1) : LfOk D L Bm R 1 1 := ⟨fun j hj => by
 obtain rfl : j = 0 := by omega
 exact tk_ok0 h0, h⟩
abbrev SQ : List (List Int) := [[1, 1], [0, 2]]
theorem sq_ok : WdOk SQ 2 1 := fun i hi => by
 match i, hi with
 | 0, _ => exact lf_ok0 (by decide)
 | 1, _ => exact lf_ok1 (by decide) (tk_ok1 (by decide) (by decide) (by decide) (by decide))
theorem sq_D : gwD SQ 2 = [1, 2, 4] := by decide
theorem sq_L : gwL SQ 2 = [[], [2]] := by decide
theorem sq_d : ∀ i, i < 2 → gwd SQ i ≠ 0 := fun i hi => by
 match i, hi with
 | 0, _ => decide
 | 1, _ => decide
theorem sq_nar : nar SQ := fun i r h => by
 match i, h with
 | 0, h => simp at h; subst h; decide
 | 1, h => simp at h; subst h; decide
 | i + 2, h => simp at h
theorem sq_reg : Reg SQ 2 := fun i r h => by
 match i, h with
 | 0, h => simp at h; subst h; rfl
 | 1, h => simp at h; subst h; rfl
 | i + 2, h => simp at h
theorem nar_ml {A : List (List Int)} (h : nar A) : Ml A 1048576 := fun i r hr => Nat.le_trans (h i r hr) (by omega)
theorem sq_mdl : Mdl SQ 1 := fun i r h => by
 match i, h with
 | 0, h => simp at h; subst h; intro j z hz; match j, hz with | 0, hz => simp at hz; subst hz; exact dl1 (by decide) | 1, hz => simp at hz; subst hz; exact dl1 (by decide) | j + 2, hz => simp at hz
 | 1, h => simp at h; subst h; intro j z hz; match j, hz with | 0, hz => simp at hz; subst hz; exact dl1 (by decide) | 1, hz => simp at hz; subst hz; exact dl1 (by decide) | j + 2, hz => simp at hz
 | i + 2, h => simp at h
abbrev qaoh70  : Rk := .box 42 (Is (.agg #[.slice none 0 0, .slice none 0 0]))
theorem of_ok (w : World) (u : Value) (n x K : Nat) (Bm : List (List Int)) (h : Hs w (Mv n Bm K) u) (hn0 : 0 < n) (hn : n ≤ 12) (hx : x ≤ 12) (hK0 : 1 ≤ K) (hK : K ≤ 1048576) (lB : Bm.length = n) (hw : nar Bm) (hR : Reg Bm x) (hb : mx (bitsM Bm) ≤ 256) (ok : WdOk Bm n K) (hd : ∀ i, i < n → gwd Bm i ≠ 0) :
  Calls Tryz.prog 14 #[u] w (Gives (TWO (GN n (gwD Bm n) (gwL Bm n)) (IS (.int .i64 0))) w) := by
 refine yam (sl := [(0, (Mv n Bm K))]) Tryz.func14 rfl Tryz.ntmps14 (by simp) (yab rfl (h) yaq) ?_
 intro a0 S0
 refine wq [.new (qaoh70), .val (iV 0)] [.inl 0] [.inr 0] S0 ?_ ?_
 ·apply jj2
  ·exact yat rfl wA rfl rfl (fun ρ w => ycv ρ _ w)
  ·exact mC
 intro _ a1 _ (S1 : Sta w 12 [(2, (qaoh70))] [(0, Mv n Bm K)] _ _ _)
 refine wp_seq ?_
 refine wq [.val (Mv n Bm K), .val (iV (mx (bitsM Bm) : Nat)), kF] [.inr 0] [.inl 2, .inr 0] S1 ?_ ?_
 ·apply jj3
  ·exact mS 0 0
  ·exact ch1 wA (qO 0 4 rfl) (yak _) (fun w u h => yk9 w u n K Bm h (by omega) (by omega) (nar_ml hw))
  ·exact yb0 wA (oO 1 5) (yaa _)
 intro _ a2 _ (S2 : Sta w 12 [(2, (qaoh70))] [(6, bF), (0, Mv n Bm K)] _ _ _)
 refine wp_cond_false (S2.bool 0 6 rfl) (wp_skip (thenN ?_))
 refine wq [.val (Mv n Bm K), .val ((TWO (GN n (gwD Bm n) (gwL Bm n)) (IS (.int .i64 0))) w.heap.size), .val (SF [((VN (n + 1) (gwD Bm n)) w.heap.size), ((MN n (gwL Bm n)) w.heap.size)]), .val (iV 0), .put (.inl 2) (.box 42 (SF [((VN (n + 1) (gwD Bm n)) w.heap.size), ((MN n (gwL Bm n)) w.heap.size)])), .val (iV 0)] [.inr 0] [.inl 5] S2 ?_ ?_
 ·apply jj6
  ·exact mS 1 0
  ·exact ch1 wA (qO 0 8 rfl) (ybo ygi (yak _)) (fun w u h => wide_ok w u n x K Bm h hn0 hn hx hK0 (by omega) lB hw hR ok hd)
  ·exact e20 wA (oO 1 9)
  ·exact e21 wA (oO 1 9)
  ·exact ya7 rfl wA rfl (k := 0) rfl (by kernel_rfl) (oO 2 10) (yaf ybl yb2 yb1) rfl
  ·exact mO 3 11
 intro _ a3 _ (S3 : Sta w 12 [(2, (.box 42 (SF [((VN (n + 1) (gwD Bm n)) w.heap.size), ((MN n (gwL Bm n)) w.heap.size)])))] [(3, iV 0)] _ _ _)
 refine wp_ret ?_
 exact yc8 S3 rfl (ybb S3 0 2 rfl ybl yb1) (yay S3 0 3 rfl)
abbrev ync  : Rk := .box 42 (Is (.agg #[.slice none 0 0, .slice none 0 0]))
theorem of_dep (w : World) (u : Value) (n x K : Nat) (Bm : List (List Int)) (h : Hs w (Mv n Bm K) u) (i0 : Nat) (hi0 : i0 < n) (hn0 : 0 < n) (hn : n ≤ 12) (hx : x ≤ 12) (hK0 : 1 ≤ K) (hK : K ≤ 1048576) (lB : Bm.length = n) (hw : nar Bm) (hR : Reg Bm x) (hb : mx (bitsM Bm) ≤ 256) (ok : WdOk Bm (i0 + 1) K) (hd : ∀ i, i < i0 → gwd Bm i ≠ 0) (hz : gwd Bm i0 = 0) :
  Calls Tryz.prog 14 #[u] w (Gives (TWO (IS (.agg #[.slice none 0 0, .slice none 0 0])) (IS (.int .i64 50))) w) := by
 refine yam (sl := [(0, (Mv n Bm K))]) Tryz.func14 rfl Tryz.ntmps14 (by simp) (yab rfl (h) yaq) ?_
 intro a0 S0
 refine wq [.new (ync), .val (iV 0)] [.inl 0] [.inr 0] S0 ?_ ?_
 ·apply jj2
  ·exact yat rfl wA rfl rfl (fun ρ w => ycv ρ _ w)
  ·exact mC
 intro _ a1 _ (S1 : Sta w 12 [(2, (ync))] [(0, Mv n Bm K)] _ _ _)
 refine wp_seq ?_
 refine wq [.val (Mv n Bm K), .val (iV (mx (bitsM Bm) : Nat)), kF] [.inr 0] [.inl 2, .inr 0] S1 ?_ ?_
 ·apply jj3
  ·exact mS 0 0
  ·exact ch1 wA (qO 0 4 rfl) (yak _) (fun w u h => yk9 w u n K Bm h (by omega) (by omega) (nar_ml hw))
  ·exact yb0 wA (oO 1 5) (yaa _)
 intro _ a2 _ (S2 : Sta w 12 [(2, (ync))] [(6, bF), (0, Mv n Bm K)] _ _ _)
 refine wp_cond_false (S2.bool 0 6 rfl) (wp_skip (thenN ?_))
 refine wq [.val (Mv n Bm K), .val ((TWO (IS (.agg #[.slice none 0 0, .slice none 0 0])) (IS (.int .i64 50))) w.heap.size), .val (Is (.agg #[.slice none 0 0, .slice none 0 0])), .val (iV 50), .put (.inl 2) (ync), .val (iV 50)] [.inr 0] [.inl 5] S2 ?_ ?_
 ·apply jj6
  ·exact mS 1 0
  ·exact ch1 wA (qO 0 8 rfl) (ybo (yak _) (yak _)) (fun w u h => wide_dep w u n x K Bm h i0 hi0 hn0 hn hx hK0 (by omega) lB hw hR ok hd hz)
  ·exact e20 wA (oO 1 9)
  ·exact e21 wA (oO 1 9)
  ·exact ya7 rfl wA rfl (k := 0) rfl (by kernel_rfl) (oO 2 10) (yaf ybl yb2 yb2) rfl
  ·exact mO 3 11
 intro _ a3 _ (S3 : Sta w 12 [(2, (ync))] [(3, iV 50)] _ _ _)
 refine wp_ret ?_
 exact yc8 S3 rfl (ybb S3 0 2 rfl ybl yb2) (yay S3 0 3 rfl)
theorem yhn (w : World) (z : Int) (h1 : -9223372036854775808 ≤ z) (h2 : z < 9223372036854775808) :
  Calls Tryz.prog 29 #[.int .i64 z] w (Gives (ZN (z)) w) := by
 refine yam (sl := [(0, (iV z))]) Tryz.func29 rfl Tryz.ntmps29 (by simp) (yab rfl (ygn _) yaq) ?_
 intro a0 S0
 refine wq [.new (.box 26 zI)] [.inl 0] [.inr 0] S0 ?_ ?_
 ·apply jj1
  ·exact yat rfl wA rfl rfl (fun ρ w => ybi ρ _ w)
 intro _ a1 _ (S1 : Sta w 5 [(2, (.box 26 zI))] [(0, iV z)] _ _ _)
 refine wq [.val (iV z), .val ((ZN (z)) w.heap.size), .put (.inl 2) (.box 26 ((ZN (z)) w.heap.size))] [.inr 0] [] S1 ?_ ?_
 ·apply jj3
  ·exact mS 0 0
  ·exact cc1 wA (qO 0 3 rfl) (ya1 _) (g_rof z h1 h2)
  ·exact ya7 rfl wA rfl (k := 0) rfl (by kernel_rfl) (oO 1 4) (yaf yaj ycn ya0) rfl
 intro _ a2 _ (S2 : Sta w 5 [(2, (.box 26 ((ZN (z)) w.heap.size)))] [] _ _ _)
 refine wp_ret ?_
 exact ybe S2 rfl (ybb S2 0 2 rfl yaj ya0)
theorem square_w (w : World) :
  Calls Tryz.prog 27 #[] w (Gives (MN 2 SQ) w) := by
 refine yam (sl := []) Tryz.func27 rfl Tryz.ntmps27 (by simp) yaq ?_
 intro a0 S0
 refine wq [.val (Is (.slice none 0 0))] [] [] S0 ?_ ?_
 ·apply jj1
  ·exact mC
 intro _ a1 _ (S1 : Sta w 8 [] [] _ _ _)
 refine wq [.val ((ZN (1)) w.heap.size), .val ((ZN (1)) w.heap.size), .val ((LF 2 2 ([(ZN (1)), (ZN (1))])) w.heap.size), .val ((ZN (0)) w.heap.size), .val ((ZN (2)) w.heap.size), .val ((LF 2 2 ([(ZN (0)), (ZN (2))])) w.heap.size), .val ((LF 1 2 ([(LF 2 2 ([(ZN (1)), (ZN (1))])), (LF 2 2 ([(ZN (0)), (ZN (2))]))])) w.heap.size), .val ((LF 1 2 ([(LF 2 2 ([(ZN (1)), (ZN (1))])), (LF 2 2 ([(ZN (0)), (ZN (2))]))])) w.heap.size)] [] [.inl 7] S1 ?_ ?_
 ·repeat' refine And.intro ?_ ?_
  ·trivial
  ·exact cc1 wA (yaa _) (ya1 _) (fun w u hu => by obtain rfl : u = _ := hu; exact yhn w 1 (by omega) (by omega))
  ·exact cc1 wA (yaa _) (ya1 _) (fun w u hu => by obtain rfl : u = _ := hu; exact yhn w 1 (by omega) (by omega))
  ·exact ylg rfl wA rfl yo6 (by decide) (oO 0 1) (oO 1 2) yjs yjs rfl
  ·exact cc1 wA (yaa _) (ya1 _) (fun w u hu => by obtain rfl : u = _ := hu; exact yhn w 0 (by omega) (by omega))
  ·exact cc1 wA (yaa _) (ya1 _) (fun w u hu => by obtain rfl : u = _ := hu; exact yhn w 2 (by omega) (by omega))
  ·exact ylg rfl wA rfl yo6 (by decide) (oO 3 4) (oO 4 5) yjs yjs rfl
  ·exact ylg rfl wA rfl bld2_row (by decide) (oO 2 3) (oO 5 6) vn_lit vn_lit rfl
  ·exact mO 6 7
 intro _ a2 _ (S2 : Sta w 8 [] [(0, ((LF 1 2 ([(LF 2 2 ([(ZN (1)), (ZN (1))])), (LF 2 2 ([(ZN (0)), (ZN (2))]))])) w.heap.size))] _ _ _)
 refine wp_ret ?_
 exact ybe S2 rfl (yay S2 0 0 rfl)
abbrev yp6 (w : World) : Pr := SF [((VN (2 + 1) ([1, 2, 4])) w.heap.size), ((MN 2 ([[], [2]])) w.heap.size)]
theorem ypi (w : World) :
  Calls Tryz.prog 8 #[] w (Gives (IS (.bool true)) w) := by
 refine yam (sl := []) Tryz.func8 rfl Tryz.ntmps8 (by simp) yaq ?_
 intro a0 S0
 refine wq [kF] [] [] S0 ?_ ?_
 ·apply jj1
  ·exact mC
 intro _ a1 _ (S1 : Sta w 34 [] [] _ _ _)
 refine wq [.val ((MN 2 SQ) w.heap.size), .val ((TWO (GN 2 ([1, 2, 4]) ([[], [2]])) (IS (.int .i64 0))) w.heap.size), .val ((TWO (GN 2 ([1, 2, 4]) ([[], [2]])) (IS (.int .i64 0))) w.heap.size), .val (yp6 w), .val (iV 0), .new (.box 42 (Is (.agg #[.slice none 0 0, .slice none 0 0]))), .put (.inr 5) (.box 42 (yp6 w)), .val (iV 0)] [.inl 5] [.inl 7] S1 ?_ ?_
 ·repeat' refine And.intro ?_ ?_
  ·trivial
  ·exact yi3 rfl wA rfl  fresh_mn rfl (fun args w => by go_simp) (fun w => square_w w)
  ·exact ch1 wA ((qO 0 4 rfl).imp (mn_mv sq_mdl)) (ybo ygi (yak _)) (fun w u h => by have q := of_ok w u 2 2 1 SQ h (by omega) (by omega) (by omega) (by omega) (by omega) rfl sq_nar sq_reg (by decide) sq_ok sq_d; rw [sq_D, sq_L] at q; exact q)
  ·exact mO 1 5
  ·exact e20 wA (oO 2 3)
  ·exact e21 wA (oO 2 3)
  ·exact yat rfl wA rfl rfl (fun ρ w => ycv ρ _ w)
  ·exact ybj 5 rfl wA rfl (by kernel_rfl) rfl (oO 3 6) (yaf ybl yb2 yb1) rfl
  ·exact mO 4 7
 intro _ a2 _ (S2 : Sta w 34 [(1, (.box 42 (yp6 w)))] [(2, iV 0)] _ _ _)
 refine wq [.val (iV 0), kT, kT, .val (Part a2 1 0), .val ((VN (2 + 1) ([1, 2, 4])) w.heap.size), .val ((ZN (1)) w.heap.size), .val ((ZN (2)) w.heap.size), .val ((ZN (4)) w.heap.size), .val ((LF 2 3 ([(ZN (1)), (ZN (2)), (ZN (4))])) w.heap.size), kT, kT, kT, .val (Part a2 1 1), .val ((MN 2 ([[], [2]])) w.heap.size), .val (iV (2 : Nat)), kT, kT, kT, .val (Part a2 1 1), .val ((MN 2 ([[], [2]])) w.heap.size), .val (AtE 1 ((VN 1 ([2])) w.heap.size)), .val ((VN 1 ([2])) w.heap.size), .val ((ZN (2)) w.heap.size), .val (Sng 26 2 ((ZN (2)) w.heap.size) w.heap.size), kT, kT, kT] [.inr 0] [.inl 26] S2 ?_ ?_
 ·repeat' refine And.intro ?_ ?_
  ·trivial
  ·exact mS 0 2
  ·exact ykp wA (oO 0 8) (yaa _) (h := rfl)
  ·exact mO 1 9
  ·exact ya2 rfl (wI 2 10) rfl (k := 0) rfl (by kernel_rfl) rfl (fun ρ w b h => ydz ρ _ _ w b 0 h)
  ·exact yav rfl (wI 2 10) rfl (oO 3 11) (k := 0) rfl (by kernel_rfl) rfl (fun ρ w b u h1 h2 h3 => ploadS rfl yd8 ρ _ _ w b u h1 h2 h3)
  ·exact cc1 (wI 2 10) (yaa _) (ya1 _) (fun w u hu => by obtain rfl : u = _ := hu; exact yhn w 1 (by omega) (by omega))
  ·exact cc1 (wI 2 10) (yaa _) (ya1 _) (fun w u hu => by obtain rfl : u = _ := hu; exact yhn w 2 (by omega) (by omega))
  ·exact cc1 (wI 2 10) (yaa _) (ya1 _) (fun w u hu => by obtain rfl : u = _ := hu; exact yhn w 4 (by omega) (by omega))
  ·exact owe_lit3 rfl (wI 2 10) rfl bld3_int (by decide) (oO 5 13) (oO 6 14) (oO 7 15) yjs yjs yjs rfl
  ·exact ch2 (wI 2 10) ((qO 4 12 rfl).imp vn_vs) ((qO 8 16 rfl).imp vn_vs) (yak _) (fun w u v h h' => eqs_w w u v _ _ h h')
  ·exact pT wA (oO 2 10) (oO 9 17)
  ·exact mO 10 18
  ·exact ya2 rfl (wI 11 19) rfl (k := 0) rfl (by kernel_rfl) rfl (fun ρ w b h => yed ρ _ _ w b 0 h)
  ·exact yav rfl (wI 11 19) rfl (oO 12 20) (k := 0) rfl (by kernel_rfl) rfl (fun ρ w b u h1 h2 h3 => ploadS rfl yet ρ _ _ w b u h1 h2 h3)
  ·exact yal rfl (wI 11 19) rfl (oO 13 21) yj5 Tryz.underlying22 rfl
  ·exact yd4 (wI 11 19) (oO 14 22) (yaa _) (h := rfl)
  ·exact pT wA (oO 11 19) (oO 15 23)
  ·exact mO 16 24
  ·exact ya2 rfl (wI 17 25) rfl (k := 0) rfl (by kernel_rfl) rfl (fun ρ w b h => yed ρ _ _ w b 0 h)
  ·exact yav rfl (wI 17 25) rfl (oO 18 26) (k := 0) rfl (by kernel_rfl) rfl (fun ρ w b u h1 h2 h3 => ploadS rfl yet ρ _ _ w b u h1 h2 h3)
  ·exact yae rfl (wI 17 25) rfl ya8 ((oO 19 27).imp yg8) (yaa _) rfl rfl
  ·exact yag rfl (wI 17 25) rfl ya9 (by decide) cel_vn (oO 20 28) rfl
  ·exact cc1 (wI 17 25) (yaa _) (ya1 _) (fun w u hu => by obtain rfl : u = _ := hu; exact yhn w 2 (by omega) (by omega))
  ·exact ygp rfl (wI 17 25) rfl yig (oO 22 30) (ya5 (by decide) ya0) rfl
  ·exact yd3 rfl (wI 17 25) rfl ((oO 21 29).imp vn_vs) ((oO 23 31).imp (fun v w h => vn_vs v w (sng_lf (by decide) v w h))) (yak _) rfl (fun args w => by go_simp) (fun w u v h h' => eqs_w w u v _ _ h h')
  ·exact pT wA (oO 17 25) (oO 24 32)
  ·exact mO 25 33
 intro _ a3 _ (S3 : Sta w 34 [(1, (.box 42 (yp6 w)))] [(0, bT)] _ _ _)
 refine wp_ret ?_
 exact ybe S3 rfl (yay S3 0 0 rfl)
end Go.Proofs.YtdiagoaakadniaaGreat
