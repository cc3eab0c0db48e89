import Derived.Test.YtoeopdmaogmjhaaJaC
import Derived.Test.YtoeopdmaogmjhaaJaA
import Derived.Test.YtoeopdmaogmjhaaGlA
/-
 Package filter: what New makes; how its pointer is held against nil.
-/
namespace Go.Proofs.Ytoeopdmaogmjhaa
open Go Go.RowKit Nt
set_option linter.unusedSimpArgs false
set_option linter.unusedVariables false
set_option maxRecDepth 20000

theorem is_fn_one {f : FuncId} {φ : Pr} {ψ : Nat → Pr} (hcf : ∀ args w, (callFunc f args).run Try.prog w = .ok (.enter f args) w) (C : ∀ w u, Hs w φ u → Calls Try.prog f #[u] w (Gives ψ w)) : ∀ v w, Is (.func (.func f) #[] #[]) v w → Fn1 [φ] [ψ] v w :=
 is_fn1 hcf (fun i φ' ψ' h1 h2 w u hu => by
  match i, h1, h2 with
  | 0, h1, h2 => simp at h1 h2; subst h1; subst h2; exact C w u hu
  | i + 1, h1, _ => simp at h1)
/-- A pointer that is not nil. -/
def NNP : Nat → Pr := fun _ v _ => ∃ a, v = .pointer (some a)
theorem fresh_nnp : Fresh NNP := ⟨fun _ _ _ _ _ h => h, fun _ _ _ _ _ _ h _ => h⟩
/-- A filter as New makes it. -/
def FIL (pd pl pa : Pr) : Pr := fun v w => ∃ x y p, v = .agg #[x, y, p, .int .u32 0, .int .i32 0, .int .u32 0, .slice none 0 0, .int .u64 0] ∧ (#[x, y, p] : Array Value).all (·.oneCell') = true ∧ pd x w ∧ pl y w ∧ pa p w
theorem pload_rnm {N : Int} {lo : Nat} {ψ : Pr} (ρ : Operand → Value) (o : Oper) (x : Operand) (w : World) (b : Nat) (u : Value) (hφ : PR (ZN N lo) ψ u w) (hx : ρ x = .pointer (some ⟨b, 1, none⟩)) (hb : w.heap[b]? = some (.cells u.cells 32 (0, 0))) :
  ∃ v, (execOp ρ { o with op := .load 27 x }).run Try.prog w = .ok (.value v) w ∧ ∀ w', PR (ZN N lo) ψ u w' → NN N.natAbs lo v w' := by
 obtain ⟨x0, x1, y0, y1, rfl, _, _⟩ := hφ
 refine ⟨x1, load1_sl ρ w o x b 1 x1 hx ((cell_of hb).trans rfl), fun w' ⟨z0, z1, z2, z3, e, h, _⟩ => ?_⟩
 simp at e
 obtain ⟨r, c, e2, hs, hf⟩ := h
 simp at e2
 rw [e.2.1, e2.2]
 exact ⟨r, c, rfl, hs, hf⟩
section
variable {ops : Array Oper} {l : List Kd} {bx : Bxs} {sl : List (Tmp × Pr)} {i : Nat} {o : Oper} {Q : Exit → Act → World → Prop} {a0 : Act} {n : Nat} {w0 : World}
theorem owe_neqnil {T T' : TypeId} {x : Operand} (ho : ops[i]? = some o) (hw : Wants ops l bx sl i o) (hop : o.op = .binOp .neq T x (.const (.pointer none)) T') (hT : Try.prog.underlying T = Try.prog.underlying 47) (hx : Opnd ops l bx sl i x (NNP w0.heap.size)) (hk : kdAt l i = kT) : Owed Try.prog ops Q l bx sl a0 n w0 i :=
  owe_is ho hw hk fun vs B a w c => by
    obtain ⟨ad, e⟩ := (hx a0 n w0 vs B a w c).now
    unfold execOp
    rw [hop]
    have e2 : a.eval (.const (.pointer none)) = .pointer none := rfl
    generalize a.eval = ρ at e e2
    go_simp
theorem owe_build_fil {x y : Operand} {pd pl pa : Pr} (ho : ops[i]? = some o) (hw : Wants ops l bx sl i o) (hop : o.op = .build 90 #[(0, x), (1, y)]) (hx : Opnd ops l bx sl i x (SF [pd, pl])) (hy : Opnd ops l bx sl i y pa) (hp : ∀ v w, pa v w → isPt v) (hk : kdAt l i = .val (FIL pd pl pa)) : Owed Try.prog ops Q l bx sl a0 n w0 i :=
  owe_val ho hw hk fun vs B a w c => by
    have h1 := hx a0 n w0 vs B a w c
    have h2 := hy a0 n w0 vs B a w c
    obtain ⟨cs, e1, c1, c2, _⟩ := id h1.now
    obtain ⟨b, k, e2⟩ := hp _ _ h2.now
    match cs, c1, e1, c2 with
    | ⟨[x0, x1]⟩, _, e1, c2 =>
      have c3 : x0.oneCell' = true ∧ x1.oneCell' = true := by simpa using c2
      refine ⟨.agg #[x0, x1, a.eval y, .int .u32 0, .int .i32 0, .int .u32 0, .slice none 0 0, .int .u64 0], ?_, fun w' ev => ⟨x0, x1, a.eval y, rfl, by rw [e2]; simp [Value.oneCell'] at c2 ⊢; exact c2, ?_, ?_, h2 w' ev⟩⟩
      · unfold execOp
        rw [hop]
        clear h1 h2 hx hy c2 c
        generalize a.eval = ρ at e1 e2
        obtain ⟨c4, c5⟩ := c3
        go_simp
      · obtain ⟨cs', e4, _, _, h4⟩ := h1 w' ev
        rw [e1] at e4
        simp at e4
        subst e4
        obtain ⟨u, hu, hp⟩ := h4 0 _ rfl
        simp at hu
        subst hu
        exact hp
      · obtain ⟨cs', e4, _, _, h4⟩ := h1 w' ev
        rw [e1] at e4
        simp at e4
        subst e4
        obtain ⟨u, hu, hp⟩ := h4 1 _ rfl
        simp at hu
        subst hu
        exact hp
theorem owe_boxfil {x : Operand} {pd pl pa : Pr} (ho : ops[i]? = some o) (hw : Wants ops l bx sl i o) (hop : o.op = .box 90 x) (hx : Opnd ops l bx sl i x (FIL pd pl pa)) (hk : kdAt l i = .val (NNP w0.heap.size)) : Owed Try.prog ops Q l bx sl a0 n w0 i :=
  owe_grow ho hw hk fun vs B a w c => by
    obtain ⟨x0, x1, x2, e, h1, _⟩ := (hx a0 n w0 vs B a w c).now
    refine ⟨.pointer (some ⟨w.heap.size, 0, none⟩), w.alloc (.cells (a.eval x).cells 90 (0, 0)), ?_, (Below.refl _ _).alloc (Nat.le_refl _) _, fun w' ev => ⟨_, rfl⟩⟩
    unfold execOp
    rw [hop, e]
    clear hx c
    generalize a.eval = ρ at e
    go_simp
end
end Go.Proofs.Ytoeopdmaogmjhaa

/-
 filter.New and the law's alive.
-/
namespace Go.Proofs.Ytoeopdmaogmjhaa
open Go Go.RowKit Nt
set_option linter.unusedSimpArgs false
set_option linter.unusedVariables false
set_option maxRecDepth 20000


theorem getD_some {α : Type} {l : List α} {k : Nat} {d : α} (h : k < l.length) : l[k]? = some (l.getD k d) := by rw [List.getD_eq_getElem?_getD, List.getElem?_eq_getElem h]; rfl
theorem nil_ce {lo : Nat} : ∀ ys w, CE 1 [Is (.slice none 0 0)] ys w → CE 1 [VN 0 [] lo] ys w := fun ys w h => ce_impZ (φs := [Is (.slice none 0 0)]) rfl (fun i φ ψ h1 h2 v hv => by
 match i, h1, h2 with
 | 0, h1, h2 => simp at h1 h2; subst h1; subst h2; exact nil_vn v w hv
 | i + 1, h1, _ => simp at h1) h
theorem res_gW {w0 W : World} {n : Nat} {bx : Bxs} {sl : List (Tmp × Pr)} {B : Nat → Prop} {a : Act} (S : Sta w0 n bx sl B a W) (k t k1 : Nat) {G m c : Nat} {p : Option Addr} {D : List Int} {L : List (List Int)} (h : bx[k]? = some (t, .box 25 (SF [VN (m + 1) D w0.heap.size, Is (.slice p m c)])))
  (hb : bx[k1]? = some (G, RW w0.heap.size (.slice p m c) 22 1 m ((L.map (fun zs => VN zs.length zs)).map (· w0.heap.size)))) : ∃ v, (resOf (.cell t 25) a.tmps).run Try.prog W = .ok v W ∧ GN m D L w0.heap.size v W := by
 obtain ⟨v, h1, h2⟩ := res_cell S k t h strct_gso shp_sf2
 obtain ⟨xs, o1, _, x1⟩ := rw_own (S.box _ (List.mem_of_getElem? hb))
 exact ⟨v, h1, sf_snd h2 (row_lf (by decide) _ W _ o1 (x1 W (Ev.refl _ _)))⟩
theorem res_gWW {w0 W : World} {n : Nat} {bx : Bxs} {sl : List (Tmp × Pr)} {B : Nat → Prop} {a : Act} (S : Sta w0 n bx sl B a W) (k t k1 k2 : Nat) {G1 G2 m c1 c2 : Nat} {p1 p2 : Option Addr} {D : List Int} {L : List (List Int)} (h : bx[k]? = some (t, .box 25 (SF [Is (.slice p1 (m + 1) c1), Is (.slice p2 m c2)])))
  (hb : bx[k1]? = some (G1, RW w0.heap.size (.slice p1 (m + 1) c1) 29 2 (m + 1) ((D.map ZN).map (· w0.heap.size)))) (hb2 : bx[k2]? = some (G2, RW w0.heap.size (.slice p2 m c2) 22 1 m ((L.map (fun zs => VN zs.length zs)).map (· w0.heap.size)))) : ∃ v, (resOf (.cell t 25) a.tmps).run Try.prog W = .ok v W ∧ GN m D L w0.heap.size v W := by
 obtain ⟨v, h1, h2⟩ := res_cell S k t h strct_gso shp_sf2
 obtain ⟨xs, o1, _, x1⟩ := rw_own (S.box _ (List.mem_of_getElem? hb))
 obtain ⟨ys, o2, _, x2⟩ := rw_own (S.box _ (List.mem_of_getElem? hb2))
 exact ⟨v, h1, sf_two h2 (row_lf (by decide) _ W _ o1 (x1 W (Ev.refl _ _))) (row_lf (by decide) _ W _ o2 (x2 W (Ev.refl _ _)))⟩

theorem apx_pt {nD nL nT K : Nat} {D : List Int} {L : List (List Int)} {τ : List Int} {dn : Int} : ∀ v w, APx nD nL nT K D L τ dn v w → isPt v := fun v w h => by obtain ⟨b, o, u, e, _⟩ := h; exact ⟨b, o, e⟩

abbrev q363f0 (w : World) (n : Nat) (A : List Int) (k0 : Nat) : Rk := .row 29 2 n (CE 2 (((A.map ZN).map (· w.heap.size)).take k0 ++ List.replicate (n - k0) zI))
abbrev q363f1 (w : World) (n : Nat) (A : List Int) (k0 : Nat) : Rk := .row 29 2 n (CE 2 (((A.map ZN).map (· w.heap.size)).take (k0 + 1) ++ List.replicate (n - (k0 + 1)) zI))
set_option maxHeartbeats 400000 in
theorem rlist_w (w : World) (u : Value) (n k : Nat) (A : List Int) (h : Hs w (Vv n A k) u) (hn : n ≤ 1048576) (hk : k ≤ 1048576) (lA : A.length = n) :
  Calls Try.prog 51 #[u] w (Gives (VN n A) w) := by
 refine calls_sta (sl := [(0, (Vv n A k))]) Try.func51 rfl Try.ntmps51 (by simp) (args_cons rfl (h) args_nil) ?_
 intro a0 S0
 refine wq [.val (Is (.slice none 0 0))] [] [.inr 0] S0 ?_ ?_
 ·apply jj1
  ·exact mC
 intro _ a1 _ (S1 : Sta w 23 [] [(0, Vv n A k)] _ _ _)
 refine wq [.val (Vv n A k), .val (iV (n : Nat)), .new (.row 29 2 n (CE 2 (List.replicate n zI))), .ref 2] [.inl 3] [.inr 0] S1 ?_ ?_
 ·apply jj4
  ·exact mS 0 0
  ·exact owe_len rfl wA rfl (oO 0 6) ar_len Try.underlying22 rfl
  ·exact owe_makeE rfl wA rfl Try.underlying22 infoInt celv_z0 (by decide) (oO 1 7) ⟨by omega, by unfold maxLen; omega⟩ rfl
  ·exact owe_ref 2 rfl wA (Or.inr rfl) (by kernel_rfl) rfl rfl
 intro _ a2 _ (S2 : Sta w 23 [(3, (.row 29 2 n (CE 2 (List.replicate n zI))))] [(0, Vv n A k)] _ _ _)
 refine wp_seq ?_
 refine wq [.val (Vv n A k), .val (iV (n : Nat)), .val (iV 0)] [.inr 0] [.inl 0, .inl 1, .inl 2] S2 ?_ ?_
 ·apply jj3
  ·exact mS 0 0
  ·exact owe_len rfl wA rfl (oO 0 9) ar_len Try.underlying22 rfl
  ·exact mC
 intro B3 a3 _ (S3 : Sta w 23 [(3, (.row 29 2 n (CE 2 (List.replicate n zI))))] [(9, Vv n A k), (10, iV (n : Nat)), (11, iV 0)] _ _ _)
 refine wp_block ?_
 refine wp_loop_ghost (fun (k0 : Nat) a W => (k0 ≤ n) ∧ ∃ Bq, Sta w 23 [(3, (q363f0 w n A k0))] [(9, Vv n A k), (10, iV (n : Nat)), (11, iV (k0 : Nat))] Bq a W) (fun (k0 : Nat) => n - k0) ?_ 0 ⟨Nat.zero_le _, B3, S3.sub [0] [0, 1, 2]⟩
 rintro k0 a4 _ ⟨hcond, _, S4⟩
 by_cases hlt : k0 < n
 ·have hset := set_next (z := Is (.agg #[.bool false, .slice none 0 0])) (xs := ((A.map ZN).map (· w.heap.size))) (n := n) (by simp [lA]) (map_get' (· w.heap.size) (map_get' ZN (getD_some (d := 0) (show k0 < A.length by omega))))
  refine wq [kT] [.inr 0] [.inl 0, .inr 0, .inr 1, .inr 2] S4 ?_ ?_
  ·apply jj1
   ·exact b_lss_int_t wA (oS 2 11) (oS 1 10)
  intro B5 a5 W5 (S5 : Sta w 23 [(3, (q363f0 w n A k0))] [(12, bT), (9, Vv n A k), (10, iV (n : Nat)), (11, iV (k0 : Nat))] _ _ _)
  refine wp_seq (wp_cond_true (S5.bool 0 12 rfl) (wp_skip (thenN (wp_seq (wp_block ?_)))))
  refine wq [.val (iV (k0 : Nat)), .val (AtE 2 (Zv (A.getD k0 0) k)), .val (Zv (A.getD k0 0) k), .new (.box 29 zI), .val (iV (k0 : Nat)), .put (.inr 3) (.box 29 (Zv (A.getD k0 0) k))] [.inr 0, .inl 3] [.inl 4, .inr 1, .inr 2, .inr 3] S5 ?_ ?_
  ·apply jj6
   ·exact mS 3 11
   ·exact owe_aindex rfl wA rfl idx_ints (oS 1 9) (oS 3 11) (zv_at (by omega)) rfl
   ·exact owe_aload rfl wA rfl ldr_int (by decide) (cel_shp (by decide) shp_zv) (oO 1 14) rfl
   ·exact owe_new rfl wA rfl rfl (fun ρ w => alloc_int ρ _ w)
   ·exact mO 0 13
   ·exact owe_put 3 rfl wA rfl (by kernel_rfl) rfl (oO 2 15) (stores_of strct_int shp_z0 shp_zv) rfl
  intro B6 a6 W6 (S6 : Sta w 23 [(3, (q363f0 w n A k0)), (5, (.box 29 (Zv (A.getD k0 0) k)))] [(4, iV (k0 : Nat)), (9, Vv n A k), (10, iV (n : Nat)), (11, iV (k0 : Nat))] _ _ _)
  refine wr [.val (Is (a6.eval (.tmp 3))), .val (iV (k0 : Nat)), .val (Zv (A.getD k0 0) k), .val ((ZN (A.getD k0 0)) w.heap.size), .val (REt a6 3 (2 * k0)), .put (.inl 3) (q363f1 w n A k0)] [.inr 0] [.inr 1, .inr 2, .inr 3] S6 ?_ ?_
  ·apply jj6
   ·exact owe_same rfl wA (Or.inl rfl) (by kernel_rfl) rfl
   ·exact mS 0 4
   ·exact lod 1 wA (loads_of strct_int shp_zv)
   ·exact cc1 wA (qO 2 18 rfl) (fresh_zn _) (fun w u h1 => g_zform (by omega) w u ((fun _ _ h => h) _ _ h1))
   ·exact owe_rindexE rfl wA rfl idx_ints (oO 0 16) (k := 0) rfl (by kernel_rfl) (oO 1 17) hlt rfl
   ·exact owe_rstoreE rfl wA rfl sto_int (by decide) (oO 4 20) (k := 0) rfl (by kernel_rfl) (oO 3 19) (cel_shp (by decide) shp_zn) hlt (by rw [hset]; rfl)
  intro B7 a7 W7 (S7 : Sta w 23 [(3, (q363f1 w n A k0))] [(9, Vv n A k), (10, iV (n : Nat)), (11, iV (k0 : Nat))] _ _ _)
  refine inBlkN (thenN ?_)
  refine wr [.val (iV (k0 + 1 : Nat)), .val (iV (k0 + 1 : Nat))] [.inr 0] [.inl 1, .inr 0, .inr 1] S7 ?_ ?_
  ·apply jj2
   ·exact b_add_int wA (oS 2 11) (opnd_const _)
   ·exact mO 0 21
  intro B8 a8 _ (S8 : Sta w 23 [(3, (q363f1 w n A k0))] [(11, iV (k0 + 1 : Nat)), (9, Vv n A k), (10, iV (n : Nat))] _ _ _)
  refine thenN ?_
  exact ⟨k0 + 1, ⟨by omega, B8, S8.sub [0] [1, 2, 0]⟩, by omega⟩
 ·have hend := fill_end (z := Is (.agg #[.bool false, .slice none 0 0])) (xs := ((A.map ZN).map (· w.heap.size))) (n := n) (k := k0) (by simp [lA]) (by omega)
  refine wq [kF] [.inr 0] [.inl 0, .inr 0, .inr 1, .inr 2] S4 ?_ ?_
  ·apply jj1
   ·exact b_lss_int_f wA (oS 2 11) (oS 1 10)
  intro B5 a5 W5 (S5 : Sta w 23 [(3, (q363f0 w n A k0))] [(12, bF), (9, Vv n A k), (10, iV (n : Nat)), (11, iV (k0 : Nat))] _ _ _)
  refine wp_seq (wp_cond_false (S5.bool 0 12 rfl) (wp_exit (thenX (thenX (inBlkE (thenN ?_))))))
  obtain ⟨B6, S6⟩ : ∃ Bq, Sta w 23 [] [(3, ((VN n A) w.heap.size)), (12, bF), (9, Vv n A k), (10, iV (n : Nat)), (11, iV (k0 : Nat))] Bq a5 W5 := ⟨_, S5.freeze 0 rfl (by simp) (fun v w' xs ho hc => row_lf (by decide) v w' xs ho (by rw [hend] at hc; exact hc))⟩
  obtain ⟨a6, W6, e1, e2⟩ : ∃ a W, a5 = a ∧ W5 = W := ⟨_, _, rfl, rfl⟩
  rw [e1, e2] at S6 ⊢
  clear e1 e2
  refine wq [.val ((VN n A) w.heap.size), .val ((VN n A) w.heap.size)] [] [.inl 1, .inr 0, .inr 2, .inr 3, .inr 4] S6 ?_ ?_
  ·apply jj2
   ·exact mS 0 3
   ·exact mO 0 22
  intro B7 a7 W7 (S7 : Sta w 23 [] [(2, ((VN n A) w.heap.size)), (3, ((VN n A) w.heap.size)), (9, Vv n A k), (10, iV (n : Nat)), (11, iV (k0 : Nat))] _ _ _)
  refine wp_ret ?_
  exact end_one S7 rfl (res_tmp S7 0 2 rfl)

abbrev qt9ax0  : Rk := .box 25 (Is (.agg #[.slice none 0 0, .slice none 0 0]))
abbrev qt9ax1 (nL : Nat) (K : Nat) (D : List Int) (L : List (List Int)) : Rk := .box 25 (SF [(Vv (nL + 1) D K), (Mv nL L K)])
abbrev qt9ax2 (w : World) (nL : Nat) (D : List Int) : Pr := (VN (nL + 1) D) w.heap.size
set_option maxHeartbeats 2000000 in
theorem renew_w (w : World) (u : Value) (nL K : Nat) (D : List Int) (L : List (List Int)) (h : Hs w (SF [Vv (nL + 1) D K, Mv nL L K]) u) (hL : nL ≤ 1048000) (hK : K ≤ 1048576) (lD : D.length = nL + 1) (lL : L.length = nL) (hLm : Ml L 1048576) :
  Calls Try.prog 31 #[u] w (Gives (GN nL D L) w) := by
 refine calls_sta (sl := [(0, (SF [(Vv (nL + 1) D K), (Mv nL L K)]))]) Try.func31 rfl Try.ntmps31 (by simp) (args_cons rfl (h) args_nil) ?_
 intro a0 S0
 refine wq [.new (qt9ax1 nL K D L), .new (qt9ax0)] [.inl 0, .inl 1] [] S0 ?_ ?_
 ·apply jj2
  ·exact owe_box rfl wA rfl (oS 0 0) rfl (fun ρ w h => box_gso shp_sf2 ρ _ _ w h)
  ·exact owe_new rfl wA rfl rfl (fun ρ w => alloc_gso ρ _ w)
 intro _ a1 _ (S1 : Sta w 33 [(1, (qt9ax1 nL K D L)), (2, (qt9ax0))] [] _ _ _)
 refine wq [.val (Is (.func (.func 51) #[] #[]))] [.inr 0, .inr 1] [.inl 0] S1 ?_ ?_
 ·apply jj1
  ·exact owe_move rfl wA (Or.inr rfl) (opnd_func _) rfl
 intro _ a2 _ (S2 : Sta w 33 [(1, (qt9ax1 nL K D L)), (2, (qt9ax0))] [(3, Is (.func (.func 51) #[] #[]))] _ _ _)
 refine wp_seq ?_
 refine wp_stmtX 7 (fun xh => [.val (Is (.func (.func 51) #[] #[])),
   .val (Part a2 1 0),
   .val (Vv (nL + 1) D K),
   .val ((VN (nL + 1) D) w.heap.size),
   .val (Part a2 1 1),
   .val (Mv nL L K),
   .val (iV (nL : Nat)),
   .new (.row 22 1 nL (CE 1 (List.replicate nL (Is (.slice none 0 0))))),
   .val (SF [((VN (nL + 1) D) w.heap.size), (Is (xh))]),
   .new (.box 25 (Is (.agg #[.slice none 0 0, .slice none 0 0]))),
   .put (.inr 9) (.box 25 (SF [((VN (nL + 1) D) w.heap.size), (Is (xh))]))]) [.inr 0, .inr 1, .inl 7, .inl 9] [.inr 0] follows S2 (fun _ => rfl) (fun _ => by kernel_rfl) (by decide) (fun _ _ => ?_) (fun xh => ?_) ?_
 ·exact ⟨⟨⟨⟨⟨⟨⟨⟨⟨⟨⟨trivial, fun _ => rfl⟩, fun _ => rfl⟩, fun _ => rfl⟩, fun _ => rfl⟩, fun _ => rfl⟩, fun _ => rfl⟩, fun _ => rfl⟩, fun _ => rfl⟩, fun h => absurd (List.contains_iff_mem.1 (by kernel_rfl)) h⟩, fun _ => rfl⟩, fun h => absurd (List.contains_iff_mem.1 (by kernel_rfl)) h⟩
 ·repeat' refine And.intro ?_ ?_
  ·trivial
  ·exact (owe_move rfl wA (Or.inl rfl) (oS 0 3) rfl).x
  ·exact (owe_part rfl wA rfl (k := 0) rfl (by kernel_rfl) rfl (fun ρ w b h => part_gso0 ρ _ _ w b 0 h)).x
  ·exact (owe_pload rfl wA rfl (oO 1 8) (k := 0) rfl (by kernel_rfl) rfl (fun ρ w b u h1 h2 h3 => ploadS rfl load1_vec ρ _ _ w b u h1 h2 h3)).x
  ·exact (owe_callv1 0 rfl wA rfl ((oO 0 7).imp (is_fn_one (φ := (Vv (nL + 1) D K)) (ψ := (VN (nL + 1) D)) (fun args w => by go_simp) (fun w u h => rlist_w w u (nL + 1) K D h (by omega) hK lD))) rfl rfl (oO 2 9) fresh_vn rfl).x
  ·exact (owe_part rfl wA rfl (k := 0) rfl (by kernel_rfl) rfl (fun ρ w b h => part_gso1 ρ _ _ w b 0 h)).x
  ·exact (owe_pload rfl wA rfl (oO 4 11) (k := 0) rfl (by kernel_rfl) rfl (fun ρ w b u h1 h2 h3 => ploadS rfl load1_mat ρ _ _ w b u h1 h2 h3)).x
  ·exact (owe_len rfl wA rfl (oO 5 12) ar_len Try.underlying23 rfl).x
  ·exact (owe_makeE rfl wA rfl Try.underlying23 infoRow (celv_one rfl) (by decide) (oO 6 13) ⟨by omega, by unfold maxLen; omega⟩ rfl).x
  ·exact owe_build_gX rfl wA rfl (oO 3 10) (fun v w h => by obtain ⟨p, c, e⟩ := lf_len v w h; exact ⟨_, _, _, e⟩) (by kernel_rfl) rfl (by kernel_rfl) rfl
  ·exact (owe_new rfl wA rfl rfl (fun ρ w => alloc_gso ρ _ w)).x
  ·exact (owe_put 9 rfl wA rfl (by kernel_rfl) rfl (oO 8 15) (stores_of strct_gso shp_g0 shp_sf2) rfl).x
 intro xh B3 a3 W3 hxh S3
 replace S3 : Sta w 33 [(1, (qt9ax1 nL K D L)), (2, (qt9ax0)), (14, (.row 22 1 nL (CE 1 (List.replicate nL (Is (.slice none 0 0)))))), (4, (.box 25 (SF [(qt9ax2 w nL D), (Is (xh))])))] [(3, Is (.func (.func 51) #[] #[]))] B3 a3 W3 := S3
 obtain ⟨pl, cl, eh, S4⟩ := S3.tellW (bx' := [(1, (qt9ax1 nL K D L)), (2, (qt9ax0)), (4, (.box 25 (SF [(qt9ax2 w nL D), (Is (xh))])))]) 2 1000003 rfl (by simp) (by simp)
 obtain rfl : xh = _ := (hxh _ rfl).symm.trans eh
 replace S4 : Sta w 33 [(1000003, (RW w.heap.size (.slice pl nL cl) 22 1 nL (List.replicate nL (Is (.slice none 0 0))))), (1, (qt9ax1 nL K D L)), (2, (qt9ax0)), (4, (.box 25 (SF [(qt9ax2 w nL D), (Is (.slice pl nL cl))])))] [(14, Is (.slice pl nL cl)), (3, Is (.func (.func 51) #[] #[]))] B3 a3 W3 := S4
 clear hxh eh
 obtain ⟨_, a4, _, e0, e1, e2⟩ : ∃ B a W, B3 = B ∧ a3 = a ∧ W3 = W := ⟨_, _, _, rfl, rfl, rfl⟩
 rw [e0, e1, e2] at S4
 rw [e1, e2]
 clear e0 e1 e2
 refine thenN (wp_seq ?_)
 refine wq [.val (Part a4 1 1), .val (Mv nL L K), .val (iV (nL : Nat)), .val (iV 0)] [.inr 0, .inr 1, .inr 2, .inr 3] [.inl 1, .inl 2, .inl 3, .inr 1] S4 ?_ ?_
 ·apply jj4
  ·exact owe_part rfl wA rfl (k := 1) rfl (by kernel_rfl) rfl (fun ρ w b h => part_gso1 ρ _ _ w b 0 h)
  ·exact owe_pload rfl wA rfl (oO 0 16) (k := 1) rfl (by kernel_rfl) rfl (fun ρ w b u h1 h2 h3 => ploadS rfl load1_mat ρ _ _ w b u h1 h2 h3)
  ·exact owe_len rfl wA rfl (oO 1 17) ar_len Try.underlying23 rfl
  ·exact mC
 intro B5 a5 _ (S5 : Sta w 33 [(1000003, (RW w.heap.size (.slice pl nL cl) 22 1 nL (List.replicate nL (Is (.slice none 0 0))))), (1, (qt9ax1 nL K D L)), (2, (qt9ax0)), (4, (.box 25 (SF [(qt9ax2 w nL D), (Is (.slice pl nL cl))])))] [(17, Mv nL L K), (18, iV (nL : Nat)), (19, iV 0), (3, Is (.func (.func 51) #[] #[]))] _ _ _)
 refine wp_block ?_
 refine wp_loop_ghost (fun (k0 : Nat) a W => (k0 ≤ nL) ∧ ∃ Bq, Sta w 33 [(1000003, (RW w.heap.size (.slice pl nL cl) 22 1 nL (((L.map (fun zs => VN zs.length zs)).map (· w.heap.size)).take k0 ++ List.replicate (nL - k0) (Is (.slice none 0 0))))), (1, (qt9ax1 nL K D L)), (2, (qt9ax0)), (4, (.box 25 (SF [(qt9ax2 w nL D), (Is (.slice pl nL cl))])))] [(17, Mv nL L K), (18, iV (nL : Nat)), (19, iV (k0 : Nat)), (3, Is (.func (.func 51) #[] #[]))] Bq a W) (fun (k0 : Nat) => nL - k0) ?_ 0 ⟨Nat.zero_le _, B5, S5.sub [0, 1, 2, 3] [0, 1, 2, 3]⟩
 rintro k0 a6 _ ⟨hcond, _, S6⟩
 by_cases hlt : k0 < nL
 ·have hset := set_next (z := Is (.slice none 0 0)) (xs := ((L.map (fun zs => VN zs.length zs)).map (· w.heap.size))) (n := nL) (by simp [lL]) (map_get' (· w.heap.size) (map_get' (fun zs => VN zs.length zs) (getD_some (d := []) (show k0 < L.length by omega))))
  have hlk := hLm k0 _ (getD_some (d := []) (show k0 < L.length by omega))
  refine wq [kT] [.inr 0, .inr 1, .inr 2, .inr 3] [.inl 0, .inr 0, .inr 1, .inr 2, .inr 3] S6 ?_ ?_
  ·apply jj1
   ·exact b_lss_int_t wA (oS 2 19) (oS 1 18)
  intro B7 a7 W7 (S7 : Sta w 33 [(1000003, (RW w.heap.size (.slice pl nL cl) 22 1 nL (((L.map (fun zs => VN zs.length zs)).map (· w.heap.size)).take k0 ++ List.replicate (nL - k0) (Is (.slice none 0 0))))), (1, (qt9ax1 nL K D L)), (2, (qt9ax0)), (4, (.box 25 (SF [(qt9ax2 w nL D), (Is (.slice pl nL cl))])))] [(20, bT), (17, Mv nL L K), (18, iV (nL : Nat)), (19, iV (k0 : Nat)), (3, Is (.func (.func 51) #[] #[]))] _ _ _)
  refine wp_seq (wp_cond_true (S7.bool 0 20 rfl) (wp_skip (thenN (wp_seq (wp_block ?_)))))
  refine wq [.val (iV (k0 : Nat)), .val (AtE 1 (Vv ((L.getD k0 []).length) (L.getD k0 []) K)), .val (Vv ((L.getD k0 []).length) (L.getD k0 []) K), .val (iV (k0 : Nat)), .val (Vv ((L.getD k0 []).length) (L.getD k0 []) K)] [.inr 0, .inr 1, .inr 2, .inr 3] [.inl 3, .inl 4, .inr 1, .inr 2, .inr 3, .inr 4] S7 ?_ ?_
  ·apply jj5
   ·exact mS 3 19
   ·exact owe_aindex rfl wA rfl idx_rows (oS 1 17) (oS 3 19) (vv_at (by omega)) rfl
   ·exact owe_aload rfl wA rfl ldr_row1 (by decide) cel_vv (oO 1 22) rfl
   ·exact mO 0 21
   ·exact mO 2 23
  intro B8 a8 W8 (S8 : Sta w 33 [(1000003, (RW w.heap.size (.slice pl nL cl) 22 1 nL (((L.map (fun zs => VN zs.length zs)).map (· w.heap.size)).take k0 ++ List.replicate (nL - k0) (Is (.slice none 0 0))))), (1, (qt9ax1 nL K D L)), (2, (qt9ax0)), (4, (.box 25 (SF [(qt9ax2 w nL D), (Is (.slice pl nL cl))])))] [(5, iV (k0 : Nat)), (6, Vv ((L.getD k0 []).length) (L.getD k0 []) K), (17, Mv nL L K), (18, iV (nL : Nat)), (19, iV (k0 : Nat)), (3, Is (.func (.func 51) #[] #[]))] _ _ _)
  refine wr [.val (Part a8 4 1), .val (Is (.slice pl nL cl)), .val (iV (k0 : Nat)), .val (Is (.func (.func 51) #[] #[])), .val (Vv ((L.getD k0 []).length) (L.getD k0 []) K), .val ((VN ((L.getD k0 []).length) (L.getD k0 [])) w.heap.size), .val (PAt pl (1 * k0)), .put (.inl 1000003) (RW w.heap.size (.slice pl nL cl) 22 1 nL (((L.map (fun zs => VN zs.length zs)).map (· w.heap.size)).take (k0 + 1) ++ List.replicate (nL - (k0 + 1)) (Is (.slice none 0 0))))] [.inr 0, .inr 1, .inr 2, .inr 3] [.inr 2, .inr 3, .inr 4, .inr 5] S8 ?_ ?_
  ·repeat' refine And.intro ?_ ?_
   ·trivial
   ·exact owe_part rfl wA rfl (k := 3) rfl (by kernel_rfl) rfl (fun ρ w b h => part_gso1 ρ _ _ w b 0 h)
   ·exact owe_pload rfl wA rfl (oO 0 24) (k := 3) rfl (by kernel_rfl) rfl (fun ρ w b u h1 h2 h3 => ploadS rfl load1_mat ρ _ _ w b u h1 h2 h3)
   ·exact mS 0 5
   ·exact mS 5 3
   ·exact mS 1 6
   ·exact owe_callv1 0 rfl wA rfl ((oO 3 27).imp (is_fn_one (φ := (Vv ((L.getD k0 []).length) (L.getD k0 []) K)) (ψ := (VN ((L.getD k0 []).length) (L.getD k0 []))) (fun args w => by go_simp) (fun w u h => rlist_w w u _ K _ h hlk hK rfl))) rfl rfl (oO 4 28) fresh_vn rfl
   ·exact owe_windex rfl wA rfl idx_rows (oO 1 25) (k := 0) rfl (by kernel_rfl) (oO 2 26) hlt rfl
   ·exact owe_wstore rfl wA rfl sto_row1 (by decide) (oO 6 30) (k := 0) rfl (by kernel_rfl) (oO 5 29) cel_vn hlt (by rw [hset]; rfl)
  intro _ a9 _ (S9 : Sta w 33 [(1000003, (RW w.heap.size (.slice pl nL cl) 22 1 nL (((L.map (fun zs => VN zs.length zs)).map (· w.heap.size)).take (k0 + 1) ++ List.replicate (nL - (k0 + 1)) (Is (.slice none 0 0))))), (1, (qt9ax1 nL K D L)), (2, (qt9ax0)), (4, (.box 25 (SF [(qt9ax2 w nL D), (Is (.slice pl nL cl))])))] [(17, Mv nL L K), (18, iV (nL : Nat)), (19, iV (k0 : Nat)), (3, Is (.func (.func 51) #[] #[]))] _ _ _)
  refine inBlkN (thenN ?_)
  refine wr [.val (iV (k0 + 1 : Nat)), .val (iV (k0 + 1 : Nat))] [.inr 0, .inr 1, .inr 2, .inr 3] [.inl 1, .inr 0, .inr 1, .inr 3] S9 ?_ ?_
  ·apply jj2
   ·exact b_add_int wA (oS 2 19) (opnd_const _)
   ·exact mO 0 31
  intro B10 a10 _ (S10 : Sta w 33 [(1000003, (RW w.heap.size (.slice pl nL cl) 22 1 nL (((L.map (fun zs => VN zs.length zs)).map (· w.heap.size)).take (k0 + 1) ++ List.replicate (nL - (k0 + 1)) (Is (.slice none 0 0))))), (1, (qt9ax1 nL K D L)), (2, (qt9ax0)), (4, (.box 25 (SF [(qt9ax2 w nL D), (Is (.slice pl nL cl))])))] [(19, iV (k0 + 1 : Nat)), (17, Mv nL L K), (18, iV (nL : Nat)), (3, Is (.func (.func 51) #[] #[]))] _ _ _)
  refine thenN ?_
  exact ⟨k0 + 1, ⟨by omega, B10, S10.sub [0, 1, 2, 3] [1, 2, 0, 3]⟩, by omega⟩
 ·have hend := fill_end (z := Is (.slice none 0 0)) (xs := ((L.map (fun zs => VN zs.length zs)).map (· w.heap.size))) (n := nL) (k := k0) (by simp [lL]) (by omega)
  rw [hend] at S6
  refine wq [kF] [.inr 0, .inr 1, .inr 2, .inr 3] [.inl 0, .inr 0, .inr 1, .inr 2, .inr 3] S6 ?_ ?_
  ·apply jj1
   ·exact b_lss_int_f wA (oS 2 19) (oS 1 18)
  intro B7 a7 W7 (S7 : Sta w 33 [(1000003, (RW w.heap.size (.slice pl nL cl) 22 1 nL (((L.map (fun zs => VN zs.length zs)).map (· w.heap.size))))), (1, (qt9ax1 nL K D L)), (2, (qt9ax0)), (4, (.box 25 (SF [(qt9ax2 w nL D), (Is (.slice pl nL cl))])))] [(20, bF), (17, Mv nL L K), (18, iV (nL : Nat)), (19, iV (k0 : Nat)), (3, Is (.func (.func 51) #[] #[]))] _ _ _)
  refine wp_seq (wp_cond_false (S7.bool 0 20 rfl) (wp_exit (thenX (thenX (inBlkE (thenN ?_))))))
  refine wq [.val (SF [(qt9ax2 w nL D), (Is (.slice pl nL cl))]), .put (.inl 2) (.box 25 (SF [(qt9ax2 w nL D), (Is (.slice pl nL cl))]))] [.inr 0, .inr 1, .inr 2, .inr 3] [.inr 1, .inr 2, .inr 3, .inr 4] S7 ?_ ?_
  ·apply jj2
   ·exact lod 3 wA (loads_of strct_gso shp_sf2)
   ·exact owe_set rfl wA rfl (k := 2) rfl (by kernel_rfl) (oO 0 32) (stores_of strct_gso shp_g0 shp_sf2) rfl
  intro B8 a8 W8 (S8 : Sta w 33 [(1000003, (RW w.heap.size (.slice pl nL cl) 22 1 nL (((L.map (fun zs => VN zs.length zs)).map (· w.heap.size))))), (1, (qt9ax1 nL K D L)), (2, (.box 25 (SF [(qt9ax2 w nL D), (Is (.slice pl nL cl))]))), (4, (.box 25 (SF [(qt9ax2 w nL D), (Is (.slice pl nL cl))])))] [(17, Mv nL L K), (18, iV (nL : Nat)), (19, iV (k0 : Nat)), (3, Is (.func (.func 51) #[] #[]))] _ _ _)
  refine wp_ret ?_
  exact end_one S8 rfl (res_gW S8 2 2 0 rfl rfl)

abbrev qi6g80 (nL : Nat) (K : Nat) (D : List Int) (L : List (List Int)) : Rk := .box 25 (SF [(Vv (nL + 1) D K), (Mv nL L K)])
abbrev qi6g81 (w : World) (nL : Nat) (D : List Int) (L : List (List Int)) : Pr := SF [((VN (nL + 1) D) w.heap.size), ((MN nL L) w.heap.size)]
set_option maxHeartbeats 2000000 in
theorem fnew_w (w : World) (u t : Value) (nL K : Nat) (D : List Int) (L : List (List Int)) (h : Hs w (SF [Vv (nL + 1) D K, Mv nL L K]) u) (hL : nL ≤ 1048000) (hK : K ≤ 1048576) (lD : D.length = nL + 1) (lL : L.length = nL) (hLm : Ml L 1048576) (nT Kt : Nat) (ts : List (Int × Int)) (ht : Hs w (QV nT ts Kt) t) (hT : nT ≤ 1048576) (hKt : Kt ≤ 1048576) (lT : ts.length = nT) (g : FGood D L ts [] 0) (K2 : Nat) (τ : List Int) (dn : Int) (hK2 : K2 ≤ 16777216) (lτ : τ.length = nL) (hof : ∀ (B : Nat → Prop) (w : World) (u v : Value), (∀ k, B k → k < w.heap.size) → Has B w (SF [Vv (nL + 1) D K, Mv nL L K]) u → Has B w (QV nT ts Kt) v → Calls Try.prog 17 #[u, v] w fun e w' => ∃ r, e = .returned r ∧ Below w.heap.size w w' ∧ Has B w' (APx (nL + 1) nL nL K2 D L τ dn) r) :
  Calls Try.prog 14 #[u, t] w (Gives (TWO NNP (IS (.int .i64 0))) w) := by
 have hdL := sf_mdl h.now
 have hdD : Dl D K := by
  obtain ⟨cs, _, _, _, hp⟩ := h.now
  obtain ⟨v, _, hv⟩ := hp 0 _ rfl
  exact vv_dl hv
 refine calls_sta (sl := [(0, (SF [(Vv (nL + 1) D K), (Mv nL L K)])), (1, (QV nT ts Kt))]) Try.func14 rfl Try.ntmps14 (by simp) (args_cons rfl (h) (args_cons rfl (ht) args_nil)) ?_
 intro a0 S0
 refine wq [.new (qi6g80 nL K D L), .val (Is (.pointer none)), .val (iV 0)] [.inl 0] [.inr 1] S0 ?_ ?_
 ·apply jj3
  ·exact owe_box rfl wA rfl (oS 0 0) rfl (fun ρ w h => box_gso shp_sf2 ρ _ _ w h)
  ·exact mC
  ·exact mC
 intro _ a1 _ (S1 : Sta w 22 [(2, (qi6g80 nL K D L))] [(1, (QV nT ts Kt))] _ _ _)
 refine wp_seq ?_
 refine wq [.val (SF [(Vv (nL + 1) D K), (Mv nL L K)]), .val (QV nT ts Kt), .val (iV 0), .val (iV 0)] [.inr 0] [.inl 3, .inr 0] S1 ?_ ?_
 ·apply jj4
  ·exact lod 0 wA (loads_of strct_gso shp_sf2)
  ·exact mS 0 1
  ·exact owe_callh4 rfl wA rfl (oO 0 8) (oO 1 9) ((opnd_const _).imp nil_vv) ((opnd_const _).imp nil_qv) (fresh_is _) rfl (fun args w => by go_simp) (fun w u0 u1 u2 u3 h0 h1 h2 h3 => refu_g w u0 u1 u2 u3 (nL + 1) nL nT K Kt 0 0 D L ts [] h0 h1 h2 (by omega) (by omega) hT (by omega) hK hKt (by omega) lD lL lT rfl 0 0 [] h3 (by omega) (by omega) rfl g)
  ·exact mO 2 10
 intro _ a2 _ (S2 : Sta w 22 [(2, (qi6g80 nL K D L))] [(6, iV 0), (1, (QV nT ts Kt))] _ _ _)
 refine wq [.val (iV 0), kF] [.inr 0] [.inl 1, .inr 0, .inr 1] S2 ?_ ?_
 ·apply jj2
  ·exact mS 0 6
  ·exact b_neq_errno_f wA (oO 0 11) (opnd_const _) (h := rfl)
 intro _ a3 _ (S3 : Sta w 22 [(2, (qi6g80 nL K D L))] [(12, bF), (6, iV 0), (1, (QV nT ts Kt))] _ _ _)
 refine wp_cond_false (S3.bool 0 12 rfl) (wp_skip (thenN ?_))
 refine wq [.val (SF [(Vv (nL + 1) D K), (Mv nL L K)]), .val (qi6g81 w nL D L), .new (.box 25 (Is (.agg #[.slice none 0 0, .slice none 0 0]))), .put (.inr 2) (.box 25 (qi6g81 w nL D L))] [.inr 0, .inl 2] [.inr 2] S3 ?_ ?_
 ·apply jj4
  ·exact lod 0 wA (loads_of strct_gso shp_sf2)
  ·exact ch1 wA (qO 0 14 rfl) fresh_gn (fun w u h => renew_w w u nL K D L h hL hK lD lL hLm)
  ·exact owe_new rfl wA rfl rfl (fun ρ w => alloc_gso ρ _ w)
  ·exact owe_put 2 rfl wA rfl (by kernel_rfl) rfl (oO 1 15) (stores_of strct_gso shp_g0 shp_sf2) rfl
 intro _ a4 _ (S4 : Sta w 22 [(2, (qi6g80 nL K D L)), (7, (.box 25 (qi6g81 w nL D L)))] [(1, (QV nT ts Kt))] _ _ _)
 refine wq [.val (qi6g81 w nL D L), .val (qi6g81 w nL D L), .val (QV nT ts Kt), .val (APx (nL + 1) nL nL K2 D L τ dn), .val (FIL ((VN (nL + 1) D) w.heap.size) ((MN nL L) w.heap.size) (APx (nL + 1) nL nL K2 D L τ dn)), .val (NNP w.heap.size), .val (NNP w.heap.size), .val (iV 0)] [.inr 0, .inr 1] [.inl 6, .inl 7] S4 ?_ ?_
 ·repeat' refine And.intro ?_ ?_
  ·trivial
  ·exact lod 1 wA (loads_of strct_gso shp_sf2)
  ·exact lod 1 wA (loads_of strct_gso shp_sf2)
  ·exact mS 0 1
  ·exact owe_callB2 rfl wA rfl ((oO 1 17).imp (sf_imp (vn_vv hdD) (mn_mv hdL))) (oO 2 18) rfl (fun args w => by go_simp) (fun B w u v _ hB h1 h2 => hof B w u v hB h1 h2)
  ·exact owe_build_fil rfl wA rfl (oO 0 16) (oO 3 19) apx_pt rfl
  ·exact owe_boxfil rfl wA rfl (oO 4 20) rfl
  ·exact mO 5 21
  ·exact mC
 intro _ a5 _ (S5 : Sta w 22 [(2, (qi6g80 nL K D L)), (7, (.box 25 (qi6g81 w nL D L)))] [(4, (NNP w.heap.size)), (5, iV 0)] _ _ _)
 refine wp_ret ?_
 exact end_two S5 rfl (res_tmp S5 0 4 rfl) (res_tmp S5 1 5 rfl)

abbrev qnpri0  : Rk := .box 25 (Is (.agg #[.slice none 0 0, .slice none 0 0]))
set_option maxHeartbeats 400000 in
theorem plain_w (w : World) :
  Calls Try.prog 13 #[] w (Gives (GN 1 ([1, 1]) ([[]])) w) := by
 refine calls_sta (sl := []) Try.func13 rfl Try.ntmps13 (by simp) args_nil ?_
 intro a0 S0
 refine wq [.new (qnpri0)] [.inl 0] [] S0 ?_ ?_
 ·apply jj1
  ·exact owe_new rfl wA rfl rfl (fun ρ w => alloc_gso ρ _ w)
 intro _ a1 _ (S1 : Sta w 15 [(0, (qnpri0))] [] _ _ _)
 refine wq [.new (qnpri0)] [.inr 0, .inl 0] [] S1 ?_ ?_
 ·apply jj1
  ·exact owe_new rfl wA rfl rfl (fun ρ w => alloc_gso ρ _ w)
 intro B2 a2 W2 (S2 : Sta w 15 [(0, (qnpri0)), (1, (qnpri0))] [] _ _ _)
 replace S2 : Sta w 15 [(0, (qnpri0)), (1, (.box 25 (SF [(Is (.slice none 0 0)), (Is (.slice none 0 0))])))] [] B2 a2 W2 := S2.reboxS 1 rfl zg_sf
 refine wp_seq ?_
 refine wp_stmtX 5 (fun xh => [.val (Part a2 1 0),
   .val (Is (.slice none 0 0)),
   .val ((ZN (1)) w.heap.size),
   .val ((ZN (1)) w.heap.size),
   .val (Src 29 2 2 (CE 2 [((ZN (1)) w.heap.size), ((ZN (1)) w.heap.size)])),
   .new (.row 29 2 2 (CE 2 ([(ZN (1)) w.heap.size, (ZN (1)) w.heap.size]))),
   .val (Part a2 1 0),
   .put (.inl 1) (.box 25 (SF [(Is (xh)), (Is (.slice none 0 0))]))]) [.inr 0, .inr 1, .inl 5] [] follows S2 (fun _ => rfl) (fun _ => by kernel_rfl) (by decide) (fun _ _ => ?_) (fun xh => ?_) ?_
 ·exact ⟨⟨⟨⟨⟨⟨⟨⟨trivial, fun _ => rfl⟩, fun _ => rfl⟩, fun _ => rfl⟩, fun _ => rfl⟩, fun _ => rfl⟩, fun _ => rfl⟩, fun _ => rfl⟩, fun h => absurd (List.contains_iff_mem.1 (by kernel_rfl)) h⟩
 ·repeat' refine And.intro ?_ ?_
  ·trivial
  ·exact (owe_part rfl wA rfl (k := 1) rfl (by kernel_rfl) rfl (fun ρ w b h => part_gso0 ρ _ _ w b 0 h)).x
  ·exact (owe_pload rfl wA rfl (oO 0 2) (k := 1) rfl (by kernel_rfl) rfl (fun ρ w b u h1 h2 h3 => ploadS rfl load1_vec ρ _ _ w b u h1 h2 h3)).x
  ·exact (owe_call1 rfl wA rfl (opnd_const _) (fresh_zn _) rfl (fun args w => by go_simp) (g_zof (1) (by omega) (by omega))).x
  ·exact (owe_call1 rfl wA rfl (opnd_const _) (fresh_zn _) rfl (fun args w => by go_simp) (g_zof (1) (by omega) (by omega))).x
  ·exact (owe_lit2S rfl wA rfl bld2_int (oO 2 4) (oO 3 5) zn_lit zn_lit rfl).x
  ·exact (owe_append0 rfl wA rfl (oO 1 3) (oO 4 6) einf_int Try.underlying22 (by decide) (by decide) rfl (fun ys w h => h)).x
  ·exact (owe_part rfl wA rfl (k := 1) rfl (by kernel_rfl) rfl (fun ρ w b h => part_gso0 ρ _ _ w b 0 h)).x
  ·exact owe_pputX rfl wA rfl (oO 6 8) (k := 1) rfl (by kernel_rfl) (by kernel_rfl) rfl (by kernel_rfl) store1_vec (Nat.le_of_ble_eq_true rfl) rfl
 intro xh B3 a3 W3 hxh S3
 replace S3 : Sta w 15 [(0, (qnpri0)), (1, (.box 25 (SF [(Is (xh)), (Is (.slice none 0 0))]))), (7, (.row 29 2 2 (CE 2 ([(ZN (1)) w.heap.size, (ZN (1)) w.heap.size]))))] [] B3 a3 W3 := S3
 obtain ⟨pd, cd, eh, S4⟩ := S3.tellW (bx' := [(0, (qnpri0)), (1, (.box 25 (SF [(Is (xh)), (Is (.slice none 0 0))])))]) 2 1000002 rfl (by simp) (by simp)
 obtain rfl : xh = _ := (hxh _ rfl).symm.trans eh
 replace S4 : Sta w 15 [(1000002, (RW w.heap.size (.slice pd 2 cd) 29 2 2 ([(ZN (1)) w.heap.size, (ZN (1)) w.heap.size]))), (0, (qnpri0)), (1, (.box 25 (SF [(Is (.slice pd 2 cd)), (Is (.slice none 0 0))])))] [(7, Is (.slice pd 2 cd))] B3 a3 W3 := S4
 clear hxh eh
 obtain ⟨_, a4, _, e0, e1, e2⟩ : ∃ B a W, B3 = B ∧ a3 = a ∧ W3 = W := ⟨_, _, _, rfl, rfl, rfl⟩
 rw [e0, e1, e2] at S4
 rw [e1, e2]
 clear e0 e1 e2
 refine thenN (wp_seq ?_)
 refine wp_stmtX 3 (fun xh => [.val (Part a4 1 1),
   .val (Is (.slice none 0 0)),
   .val (Sng 22 1 (Is (.slice none 0 0)) w.heap.size),
   .new (.row 22 1 1 (CE 1 ([VN 0 [] w.heap.size]))),
   .val (Part a4 1 1),
   .put (.inl 1) (.box 25 (SF [(Is (.slice pd 2 cd)), (Is (xh))]))]) [.inr 0, .inr 1, .inr 2, .inl 3] [] follows S4 (fun _ => rfl) (fun _ => by kernel_rfl) (by decide) (fun _ _ => ?_) (fun xh => ?_) ?_
 ·exact ⟨⟨⟨⟨⟨⟨trivial, fun _ => rfl⟩, fun _ => rfl⟩, fun _ => rfl⟩, fun _ => rfl⟩, fun _ => rfl⟩, fun h => absurd (List.contains_iff_mem.1 (by kernel_rfl)) h⟩
 ·apply jj6
  ·exact (owe_part rfl wA rfl (k := 2) rfl (by kernel_rfl) rfl (fun ρ w b h => part_gso1 ρ _ _ w b 0 h)).x
  ·exact (owe_pload rfl wA rfl (oO 0 9) (k := 2) rfl (by kernel_rfl) rfl (fun ρ w b u h1 h2 h3 => ploadS rfl load1_mat ρ _ _ w b u h1 h2 h3)).x
  ·exact (owe_b1 rfl wA rfl bld_row1 (opnd_const _) (cel_is rfl) rfl).x
  ·exact (owe_append0 rfl wA rfl (oO 1 10) ((oO 2 11).imp b1_src) einf_row1 Try.underlying23 (by decide) (by decide) rfl nil_ce).x
  ·exact (owe_part rfl wA rfl (k := 2) rfl (by kernel_rfl) rfl (fun ρ w b h => part_gso1 ρ _ _ w b 0 h)).x
  ·exact owe_pputX rfl wA rfl (oO 4 13) (k := 2) rfl (by kernel_rfl) (by kernel_rfl) rfl (by kernel_rfl) store1_mat (Nat.le_of_ble_eq_true rfl) rfl
 intro xh B5 a5 W5 hxh S5
 replace S5 : Sta w 15 [(1000002, (RW w.heap.size (.slice pd 2 cd) 29 2 2 ([(ZN (1)) w.heap.size, (ZN (1)) w.heap.size]))), (0, (qnpri0)), (1, (.box 25 (SF [(Is (.slice pd 2 cd)), (Is (xh))]))), (12, (.row 22 1 1 (CE 1 ([VN 0 [] w.heap.size]))))] [] B5 a5 W5 := S5
 obtain ⟨pl, cl, eh, S6⟩ := S5.tellW (bx' := [(1000002, (RW w.heap.size (.slice pd 2 cd) 29 2 2 ([(ZN (1)) w.heap.size, (ZN (1)) w.heap.size]))), (0, (qnpri0)), (1, (.box 25 (SF [(Is (.slice pd 2 cd)), (Is (xh))])))]) 3 1000003 rfl (by simp) (by simp)
 obtain rfl : xh = _ := (hxh _ rfl).symm.trans eh
 replace S6 : Sta w 15 [(1000003, (RW w.heap.size (.slice pl 1 cl) 22 1 1 ([VN 0 [] w.heap.size]))), (1000002, (RW w.heap.size (.slice pd 2 cd) 29 2 2 ([(ZN (1)) w.heap.size, (ZN (1)) w.heap.size]))), (0, (qnpri0)), (1, (.box 25 (SF [(Is (.slice pd 2 cd)), (Is (.slice pl 1 cl))])))] [(12, Is (.slice pl 1 cl))] B5 a5 W5 := S6
 clear hxh eh
 obtain ⟨_, a6, _, e0, e1, e2⟩ : ∃ B a W, B5 = B ∧ a5 = a ∧ W5 = W := ⟨_, _, _, rfl, rfl, rfl⟩
 rw [e0, e1, e2] at S6
 rw [e1, e2]
 clear e0 e1 e2
 refine thenN ?_
 refine wq [.val (SF [(Is (.slice pd 2 cd)), (Is (.slice pl 1 cl))]), .put (.inl 0) (.box 25 (SF [(Is (.slice pd 2 cd)), (Is (.slice pl 1 cl))]))] [.inr 0, .inr 1, .inr 2, .inr 3] [] S6 ?_ ?_
 ·apply jj2
  ·exact lod 3 wA (loads_of strct_gso shp_sf2)
  ·exact owe_set rfl wA rfl (k := 2) rfl (by kernel_rfl) (oO 0 14) (stores_of strct_gso shp_g0 shp_sf2) rfl
 intro _ a7 _ (S7 : Sta w 15 [(1000003, (RW w.heap.size (.slice pl 1 cl) 22 1 1 ([VN 0 [] w.heap.size]))), (1000002, (RW w.heap.size (.slice pd 2 cd) 29 2 2 ([(ZN (1)) w.heap.size, (ZN (1)) w.heap.size]))), (0, (.box 25 (SF [(Is (.slice pd 2 cd)), (Is (.slice pl 1 cl))]))), (1, (.box 25 (SF [(Is (.slice pd 2 cd)), (Is (.slice pl 1 cl))])))] [] _ _ _)
 refine wp_ret ?_
 exact end_one S7 rfl (res_gWW S7 2 0 1 0 (D := [1, 1]) (L := [[]]) rfl rfl rfl)


theorem pl_good : Good [1, 1] [[]] := ⟨by decide, rfl, rfl, fun i hi => by match i, hi with | 0, _ => rfl, fun i hi => by match i, hi with | 0, _ => decide⟩
theorem pl_sh : Dl (shL [3] 1 [0] 1 1) 1 := fun i z h => by
 match i, h with
 | 0, h => have h : ([3] : List Int)[0]? = some z := h; simp at h; rw [← h]; exact dl1 (by decide)
 | i + 1, h => have h : ([3] : List Int)[i + 1]? = some z := h; simp at h
theorem pl_11 : Dl [1, 1] 1 := fun i z h => by
 match i, h with
 | 0, h => simp at h; rw [← h]; exact dl1 (by decide)
 | 1, h => simp at h; rw [← h]; exact dl1 (by decide)
 | i + 2, h => simp at h
theorem pl_3 : Dl [3] 1 := fun i z h => by
 match i, h with
 | 0, h => simp at h; rw [← h]; exact dl1 (by decide)
 | i + 1, h => simp at h
theorem pl_m : Mdl [[]] 1 := fun i r h => by
 match i, h with
 | 0, h => simp at h; subst h; exact fun j z hz => by simp at hz
 | i + 1, h => simp at h
theorem pl_ml : Ml ([[]] : List (List Int)) 1048576 := fun i r h => by
 match i, h with
 | 0, h => simp at h; subst h; simp
 | i + 1, h => simp at h
theorem pl_S : fS [1, 1] (shL [3] 1 [0] 1 1) [[]] 1 1 = (9, 1) := by decide
theorem pl_b (z : Int) (h : z.natAbs < 4294967296) : (digs z.natAbs).length ≤ 67108864 := Nat.le_trans (dl1 h) (by omega)
theorem pl_N : ∀ k, k ≤ 1 → (digs (fS [1, 1] (shL [3] 1 [0] 1 1) [[]] 1 k).1.natAbs).length ≤ 67108864 := fun k hk => by
 match k, hk with
 | 0, _ => exact pl_b 0 (by decide)
 | 1, _ => rw [pl_S]; exact pl_b 9 (by decide)
theorem pl_R : ∀ k, k ≤ 1 → (digs (fS [1, 1] (shL [3] 1 [0] 1 1) [[]] 1 k).2.natAbs).length ≤ 67108864 := fun k hk => by
 match k, hk with
 | 0, _ => exact pl_b 1 (by decide)
 | 1, _ => rw [pl_S]; exact pl_b 1 (by decide)
theorem pl_q : ((1 : Int) * 1) * ((fS [1, 1] (shL [3] 1 [0] 1 1) [[]] 1 1).2 * ([1, 1] : List Int).getD (1 - 1) 0) = ((1 : Nat) : Int) := by rw [pl_S]; rfl
theorem pl_ok : DenOk [] := fun k hk => absurd hk (Nat.not_lt_zero _)
theorem pl_fg {m : Nat} (h : m ≤ 1) : FGood [1, 1] [[]] [] [] m := ⟨pl_good, Or.inl rfl, h, pl_ok, pl_ok⟩
theorem pl_of (B : Nat → Prop) (w : World) (u v : Value) (hB : ∀ k, B k → k < w.heap.size) (h : Has B w (SF [Vv 2 [1, 1] 1, Mv 1 [[]] 1]) u) (hv : Has B w (QV 0 [] 0) v) : Calls Try.prog 17 #[u, v] w fun e w' => ∃ r, e = .returned r ∧ Below w.heap.size w w' ∧ Has B w' (APx 2 1 1 4194304 [1, 1] [[]] [0] 1) r :=
 of_H (nD := 2) (nL := 1) (nT := 0) (K := 1) (Kt := 0) (K2 := 4194304) (D := [1, 1]) (L := [[]]) (ts := []) (by omega) (by omega) (by omega) rfl pl_ok (by decide) (Or.inl rfl) (by omega) (by omega) B w u v hB h hv
theorem pl_9 : (digs (9 : Int).natAbs).length = 1 := by
 have h1 := dl1 (z := 9) (by decide)
 have h2 : (digs (9 : Int).natAbs).length ≠ 0 := fun e => absurd ((digs_length_zero _).1 e) (by decide)
 omega

set_option maxHeartbeats 2000000 in
theorem falive_w (w : World) :
  Calls Try.prog 4 #[] w (Gives (IS (.bool true)) w) := by
 refine calls_sta (sl := []) Try.func4 rfl Try.ntmps4 (by simp) args_nil ?_
 intro a0 S0
 refine wq [kF] [] [] S0 ?_ ?_
 ·apply jj1
  ·exact mC
 intro _ a1 _ (S1 : Sta w 44 [] [] _ _ _)
 refine wq [.new (.row 29 2 0 (CE 2 ((([] : List Int).map ZN).map (· w.heap.size))))] [.inl 0] [] S1 ?_ ?_
 ·apply jj1
  ·exact owe_nilrow rfl wA rfl rfl ce_nil
 intro _ a2 _ (S2 : Sta w 44 [(1, (.row 29 2 0 (CE 2 ((([] : List Int).map ZN).map (· w.heap.size)))))] [] _ _ _)
 refine wq [.val (Is (a2.eval (.tmp 1))), .val ((ZN (3)) w.heap.size), .val (Sng 29 2 ((ZN (3)) w.heap.size) w.heap.size), .mov 1 (.row 29 2 1 (CE 2 ((([3] : List Int).map ZN).map (· w.heap.size)))), .ref 3] [.inl 4] [] S2 ?_ ?_
 ·apply jj5
  ·exact owe_same rfl wA (Or.inl rfl) (by kernel_rfl) rfl
  ·exact cc1 wA (opnd_const _) (fresh_zn _) (g_zof (3) (by omega) (by omega))
  ·exact owe_b1 rfl wA rfl bld_int (oO 1 7) (cel_shp (by decide) shp_zn) rfl
  ·exact owe_append rfl wA rfl (oO 0 6) (k := 0) rfl (by kernel_rfl) ((oO 2 8).imp b1_src) einf_int Try.underlying22 (by decide) ⟨by unfold maxLen; omega, by omega⟩ rfl (fun xs ys w h1 h2 => ce_append _ _ _ h1 h2)
  ·exact owe_ref 3 rfl wA (Or.inr rfl) (by kernel_rfl) rfl rfl
 intro _ a3 W3 (S3 : Sta w 44 [(1, (.row 29 2 1 (CE 2 ((([3] : List Int).map ZN).map (· w.heap.size)))))] [] _ _ _)
 obtain ⟨_, S4⟩ : ∃ Bq, Sta w 44 [] [(1, ((VN 1 ([3])) w.heap.size))] Bq a3 W3 := ⟨_, S3.freeze 0 rfl (by simp) (fun v w' xs ho hc => row_lf (by decide) v w' xs ho hc)⟩
 obtain ⟨a4, _, e1, e2⟩ : ∃ a W, a3 = a ∧ W3 = W := ⟨_, _, rfl, rfl⟩
 rw [e1, e2] at S4 ⊢
 clear e1 e2
 refine wq [.val (SF [((VN (1 + 1) ([1, 1])) w.heap.size), ((MN 1 ([[]])) w.heap.size)]), .val ((VN 1 ([3])) w.heap.size), .val ((TWO (RN ((9 : Int)) 1) (IS (.int .i64 0))) w.heap.size), .val ((TWO (RN ((9 : Int)) 1) (IS (.int .i64 0))) w.heap.size), .val ((RN ((9 : Int)) 1) w.heap.size), .val (iV 0), .new (.box 32 zR), .put (.inr 6) (.box 32 ((RN ((9 : Int)) 1) w.heap.size)), .val (iV 0)] [.inl 6] [.inl 8] S4 ?_ ?_
 ·repeat' refine And.intro ?_ ?_
  ·trivial
  ·exact owe_call0 rfl wA rfl  fresh_gn rfl (fun args w => by go_simp) (fun w => plain_w w)
  ·exact mS 0 1
  ·exact owe_callh3 rfl wA rfl ((oO 0 11).imp (sf_imp (vn_vv pl_11) (mn_mv pl_m))) ((opnd_const _).imp nil_qv) ((oO 1 12).imp (vn_vv pl_3)) (fresh_two (fresh_rn _ _) (fresh_is _)) rfl (fun args w => by go_simp) (fun w u0 u1 u2 h0 h1 h2 => Gives.cast (fnm_w w u0 u1 u2 2 1 0 1 0 1 1 [1, 1] [[]] [] [3] h0 h1 h2 (by omega) (by omega) (by omega) (by omega) (by omega) (by omega) (by omega) rfl rfl rfl rfl (pl_fg (Nat.le_refl _)) 4194304 [0] 1 (by omega) rfl pl_of pl_N pl_R 1 pl_sh 1 pl_q (by omega) (Nat.le_trans (dl1 (z := 1) (by decide)) (by omega))) (by rw [pl_S]; exact congrArg (fun q => TWO q (IS (.int .i64 0))) (qq_1 9).symm))
  ·exact mO 2 13
  ·exact e20 wA (oO 3 10)
  ·exact e21 wA (oO 3 10)
  ·exact owe_new rfl wA rfl rfl (fun ρ w => alloc_rat ρ _ w)
  ·exact owe_put 6 rfl wA rfl (by kernel_rfl) rfl (oO 4 14) (stores_of strct_rat shp_r0 (shp_pr shp_zn shp_zn)) rfl
  ·exact mO 5 15
 intro _ a5 _ (S5 : Sta w 44 [(2, (.box 32 ((RN ((9 : Int)) 1) w.heap.size)))] [(3, iV 0)] _ _ _)
 refine wq [.val (SF [((VN (1 + 1) ([1, 1])) w.heap.size), ((MN 1 ([[]])) w.heap.size)]), .val ((TWO NNP (IS (.int .i64 0))) w.heap.size), .val ((TWO NNP (IS (.int .i64 0))) w.heap.size), .val (NNP w.heap.size), .val (iV 0), .val (NNP w.heap.size), .val (iV 0)] [.inr 0] [.inl 5, .inl 6, .inr 0] S5 ?_ ?_
 ·repeat' refine And.intro ?_ ?_
  ·trivial
  ·exact owe_call0 rfl wA rfl  fresh_gn rfl (fun args w => by go_simp) (fun w => plain_w w)
  ·exact owe_callh2 rfl wA rfl ((oO 0 17).imp (sf_imp (vn_vv pl_11) (mn_mv pl_m))) ((opnd_const _).imp nil_qv) (fresh_two fresh_nnp (fresh_is _)) rfl (fun args w => by go_simp) (fun w u0 u1 h0 h1 => fnew_w w u0 u1 1 1 [1, 1] [[]] h0 (by omega) (by omega) rfl rfl pl_ml 0 0 [] h1 (by omega) (by omega) rfl (pl_fg (Nat.zero_le _)) 4194304 [0] 1 (by omega) rfl pl_of)
  ·exact mO 1 18
  ·exact e20 wA (oO 2 16)
  ·exact e21 wA (oO 2 16)
  ·exact mO 3 19
  ·exact mO 4 20
 intro _ a6 _ (S6 : Sta w 44 [(2, (.box 32 ((RN ((9 : Int)) 1) w.heap.size)))] [(4, (NNP w.heap.size)), (5, iV 0), (3, iV 0)] _ _ _)
 refine wq [.val (iV 0), kT, kT, .val (iV 0), kT, kT, kT, .val (NNP w.heap.size), kT, kT, kT, .val (Part a6 2 0), .val ((ZN ((9 : Int))) w.heap.size), .val ((ZN (9)) w.heap.size), kT, kT, kT, .val (Part a6 2 0), .val (Part a6 2 1), .val ((NN (((9 : Int)).natAbs)) w.heap.size), .val (Is (.int .i64 ((digs (((9 : Int)).natAbs)).length : Nat))), kT, kT, kT] [] [.inl 23] S6 ?_ ?_
 ·repeat' refine And.intro ?_ ?_
  ·trivial
  ·exact mS 2 3
  ·exact b_eql_errno_t wA (oO 0 21) (opnd_const _) (h := rfl)
  ·exact mO 1 22
  ·exact mW (wI 2 23) (oS 1 5)
  ·exact b_eql_errno_t (wI 2 23) (oO 3 24) (opnd_const _) (h := rfl)
  ·exact pT wA (oO 2 23) (oO 4 25)
  ·exact mO 5 26
  ·exact mW (wI 6 27) (oS 0 4)
  ·exact owe_neqnil rfl (wI 6 27) rfl rfl (oO 7 28) rfl
  ·exact pT wA (oO 6 27) (oO 8 29)
  ·exact mO 9 30
  ·exact owe_part rfl (wI 10 31) rfl (k := 0) rfl (by kernel_rfl) rfl (fun ρ w b h => part_rat0 ρ _ _ w b 0 h)
  ·exact owe_pload rfl (wI 10 31) rfl (oO 11 32) (k := 0) rfl (by kernel_rfl) rfl (fun ρ w b u h1 h2 h3 => pload_num ρ _ _ w b u h1 h2 h3)
  ·exact cc1 (wI 10 31) (opnd_const _) (fresh_zn _) (g_zof (9) (by omega) (by omega))
  ·exact cc2 (wI 10 31) (qO 12 33 rfl) (qO 13 34 rfl) (fresh_is _) g_eq
  ·exact pT wA (oO 10 31) (oO 14 35)
  ·exact mO 15 36
  ·exact owe_part rfl (wI 16 37) rfl (k := 0) rfl (by kernel_rfl) rfl (fun ρ w b h => part_rat0 ρ _ _ w b 0 h)
  ·exact owe_part2 rfl (wI 16 37) rfl (oO 17 38) rfl (fun ρ w b h => part_int1 ρ _ _ w b 0 h)
  ·exact owe_pload rfl (wI 16 37) rfl (oO 18 39) (k := 0) rfl (by kernel_rfl) rfl (fun ρ w b u h1 h2 h3 => pload_rnm ρ _ _ w b u h1 h2 h3)
  ·exact owe_len rfl (wI 16 37) rfl (oO 19 40) nn_len Try.underlying27 rfl
  ·exact b_eql_int_t (wI 16 37) (oO 20 41) (opnd_const _) (h := by rw [pl_9]; rfl)
  ·exact pT wA (oO 16 37) (oO 21 42)
  ·exact mO 22 43
 intro _ a7 _ (S7 : Sta w 44 [] [(0, bT)] _ _ _)
 refine wp_ret ?_
 exact end_one S7 rfl (res_tmp S7 0 0 rfl)

end Go.Proofs.Ytoeopdmaogmjhaa
