import Derived.Test.YtbgelajoomneiaaGreatGsA
import Derived.Test.YtbgelajoomneiaaGreatSetV
import Derived.Test.YtbgelajoomneiaaGreatSetG
import Derived.Test.YtbgelajoomneiaaGreatVcA
import Derived.Test.YtbgelajoomneiaaGreatSetQ
import Derived.Test.YtbgelajoomneiaaGreatSetH
/-
 Layer 5 in the logic: the struct of the data, its rules; what the program reckons, as functions.
-/
namespace Go.Proofs.YtbgelajoomneiaaGreat
open Go Go.RowKit Nt
set_option linter.unusedSimpArgs false
set_option linter.unusedVariables false
set_option maxRecDepth 20000

abbrev zG : Pr := Is (.agg #[.slice none 0 0, .slice none 0 0])
theorem strct_gso : Strct 26 2 := ⟨⟨_, Tryz.underlying26, rfl⟩, by kernel_rfl⟩
theorem shp_g0 : Shp 2 (Is (.agg #[.slice none 0 0, .slice none 0 0])) := fun u w h => ⟨_, h, rfl, by simp [Value.oneCell']⟩
theorem shp_sf2 {p q : Pr} : Shp 2 (SF [p, q]) := shp_sf (ps := [p, q])
theorem shp_isz {s : Bool} {p : Option Addr} {n c : Nat} : Shp 2 (Is (.agg #[.bool s, .slice p n c])) := fun u w h => ⟨_, h, rfl, by simp [Value.oneCell']⟩
theorem alloc_gso (ρ : Operand → Value) (o : Oper) (w : World) : (execOp ρ { o with op := .alloc 26 }).run Tryz.prog w = .ok (.value (.pointer (some ⟨w.heap.size, 0, none⟩))) (w.alloc (.cells (Value.agg #[.slice none 0 0, .slice none 0 0]).cells 26 (0, 0))) := by
  unfold execOp
  go_simp
theorem box_gso {φ : Pr} (h : Shp 2 φ) (ρ : Operand → Value) (o : Oper) (x : Operand) (w : World) (hφ : φ (ρ x) w) : (execOp ρ { o with op := .box 26 x }).run Tryz.prog w = .ok (.value (.pointer (some ⟨w.heap.size, 0, none⟩))) (w.alloc (.cells (ρ x).cells 26 (0, 0))) := by
  obtain ⟨cs, e, h1, h2⟩ := h _ _ hφ
  unfold execOp
  rw [e]
  go_simp
theorem part_gso0 (ρ : Operand → Value) (o : Oper) (x : Operand) (w : World) (b f : Nat) (h : ρ x = .pointer (some ⟨b, f, none⟩)) : (execOp ρ { o with op := .fieldAddr 26 x 0 }).run Tryz.prog w = .ok (.value (.pointer (some ⟨b, f, none⟩))) w := by
  unfold execOp
  go_simp
theorem part_gso1 (ρ : Operand → Value) (o : Oper) (x : Operand) (w : World) (b f : Nat) (h : ρ x = .pointer (some ⟨b, f, none⟩)) : (execOp ρ { o with op := .fieldAddr 26 x 1 }).run Tryz.prog w = .ok (.value (.pointer (some ⟨b, f + 1, none⟩))) w := by
  unfold execOp
  go_simp
theorem ploadS {ps : List Pr} {χ : Pr} {f : Nat} {T T' : TypeId} (hp : ps[f]? = some χ) (hL : Load1 T') (ρ : Operand → Value) (o : Oper) (x : Operand) (w : World) (b : Nat) (u : Value) (hφ : SF ps u w) (hx : ρ x = .pointer (some ⟨b, f, none⟩)) (hb : w.heap[b]? = some (.cells u.cells T (0, 0))) :
  ∃ v, (execOp ρ { o with op := .load T' x }).run Tryz.prog w = .ok (.value v) w ∧ ∀ w', SF ps u w' → χ v w' := by
 obtain ⟨cs, rfl, h1, h2, h3⟩ := hφ
 obtain ⟨v, hv, _⟩ := h3 f χ hp
 refine ⟨v, hL ρ w o x b f v hx (sf_cell hb hv), fun w' h' => ?_⟩
 obtain ⟨_, _, h4⟩ := h'.get
 obtain ⟨v', hv', hχ⟩ := h4 f χ hp
 rw [hv] at hv'
 cases hv'
 exact hχ
theorem Sta.reboxS {w0 W : World} {n : Nat} {bx : Bxs} {sl : List (Tmp × Pr)} {B : Nat → Prop} {a : Act} (S : Sta w0 n bx sl B a W) (k : Nat) {t : Nat} {T : TypeId} {φ ψ : Pr} (h : bx[k]? = some (t, .box T φ)) (hi : ∀ v w, φ v w → ψ v w) : Sta w0 n (bx.set k (t, .box T ψ)) sl B a W := by
 have hm := List.mem_of_getElem? h
 have key : ∀ x ∈ bx.set k (t, .box T ψ), ∃ y ∈ bx, y.1 = x.1 ∧ (∀ v b, x.2.set v b ↔ y.2.set v b) ∧ (y.2.at w0.heap.size B W (a.eval (.tmp x.1)) → x.2.at w0.heap.size B W (a.eval (.tmp x.1))) := fun x hx => by
  rcases List.mem_or_eq_of_mem_set hx with h1 | rfl
  ·exact ⟨x, h1, rfl, fun _ _ => Iff.rfl, id⟩
  ·exact ⟨_, hm, rfl, fun _ _ => Iff.rfl, fun ⟨b, u, h1, h2, h3, h4⟩ => ⟨b, u, h1, h2, h3, h4.imp (fun w => hi u w)⟩⟩
 refine ⟨S.ent, S.bnd, S.siz, S.dfr, fun x hx => ?_, fun x hx y hy b hbx hby => ?_, S.slt⟩
 ·obtain ⟨y, hy, e, _, h2⟩ := key x hx
  exact h2 (by rw [← e]; exact S.box y hy)
 ·obtain ⟨x', hx', ex, sx, _⟩ := key x hx
  obtain ⟨y', hy', ey, sy, _⟩ := key y hy
  have := S.sep x' hx' y' hy' b (by rw [ex]; exact (sx _ _).1 hbx) (by rw [ey]; exact (sy _ _).1 hby)
  rw [← ex, ← ey, this]

section
variable {ops : Array Oper} {l : List Kd} {bx : Bxs} {sl : List (Tmp × Pr)} {i : Nat} {o : Oper} {Q : Exit → Act → World → Prop} {a0 : Act} {n : Nat} {w0 : World}
/-- A call, by all that is known when it comes up. -/
theorem owe_callW {χ : Pr} {f : FuncId} {xs : Array Operand} {ts : Array TypeId} (ho : ops[i]? = some o) (hw : Wants ops l bx sl i o) (hop : o.op = .call { callee := .value (.func f), args := xs, argTypes := ts }) (hk : kdAt l i = .val χ)
    (hcf : ∀ args w, (callFunc f args).run Tryz.prog w = .ok (.enter f args) w)
    (h : ∀ vs B a w, Ctx ops l bx sl a0 n w0 i vs B a w → Calls Tryz.prog f (xs.map a.eval) w fun e w' => ∃ r, e = .returned r ∧ Below w.heap.size w w' ∧ Has B w' χ r) : Owed Tryz.prog ops Q l bx sl a0 n w0 i := fun vs B a w c o' ho' => by
  obtain rfl : o = o' := Option.some.inj (ho.symm.trans ho')
  have hr : (execOp a.eval o).run Tryz.prog w = .ok (.enter f (xs.map a.eval)) w := by
    unfold execOp
    rw [hop]
    have hf : a.eval (.func f) = .func (.func f) #[] #[] := rfl
    generalize a.eval = ρ at hf
    go_simp
  simp only [wpOp, ho]
  rw [if_pos (hw a0 n w0 vs B a w c)]
  refine Or.inl ?_
  unfold Oper.wp
  rw [hr, Oper.upon_enter]
  refine (h vs B a w c).mono ?_
  rintro e w' ⟨v, rfl, hb, hψ⟩
  refine ⟨v, rfl, ?_⟩
  rw [hk]
  exact ⟨hb, hψ⟩
theorem gives_has {ψ : Nat → Pr} {vs : Nat → Value} {B : Nat → Prop} {a : Act} {w : World} (hF : Fresh ψ) (c : Ctx ops l bx sl a0 n w0 i vs B a w) {e : Ending} {w' : World} (h : Gives ψ w e w') : ∃ r, e = .returned r ∧ Below w.heap.size w w' ∧ Has B w' (ψ w0.heap.size) r := by
 obtain ⟨v, rfl, hb, hψ⟩ := h
 exact ⟨v, rfl, hb, fun w'' e'' => hF.mono _ _ _ _ c.lo (hF.ev _ _ _ _ B (fun k hk => (c.bnd k hk).2) hψ e'')⟩
theorem owe_build_gso (ho : ops[i]? = some o) (hw : Wants ops l bx sl i o) (hop : o.op = .build 26 #[]) (hk : kdAt l i = .val zG) : Owed Tryz.prog ops Q l bx sl a0 n w0 i :=
  owe_is ho hw hk fun vs B a w c => by
    unfold execOp
    rw [hop]
    go_simp
/-- The struct with one field set. -/
theorem owe_buildG {x : Operand} {p : Option Addr} {m c : Nat} (ho : ops[i]? = some o) (hw : Wants ops l bx sl i o) (hop : o.op = .build 26 #[(0, x)]) (hx : Opnd ops l bx sl i x (Is (.slice p m c))) (hk : kdAt l i = .val (SF [Is (.slice p m c), Is (.slice none 0 0)])) : Owed Tryz.prog ops Q l bx sl a0 n w0 i :=
  owe_val ho hw hk fun vs B a w cx => by
    have hxv : a.eval x = .slice p m c := (hx a0 n w0 vs B a w cx).now
    refine ⟨.agg #[.slice p m c, .slice none 0 0], ?_, fun w' ev => ⟨_, rfl, rfl, by simp [Value.oneCell'], fun f q hq => ?_⟩⟩
    · unfold execOp
      rw [hop]
      generalize a.eval = ρ at hxv
      go_simp
    · match f, hq with
      | 0, hq => simp at hq; subst hq; exact ⟨_, rfl, rfl⟩
      | 1, hq => simp at hq; subst hq; exact ⟨_, rfl, rfl⟩
end

/-! What is reckoned. -/
theorem dl_getD {zs : List Int} {k : Nat} (h : Dl zs k) (i : Nat) : (digs (zs.getD i 0).natAbs).length ≤ k := by
 rw [List.getD_eq_getElem?_getD]
 cases e : zs[i]? with
 | none => show (digs (0 : Int).natAbs).length ≤ k; rw [show (0 : Int).natAbs = 0 from rfl, digs_zero]; exact Nat.zero_le _
 | some z => exact h i z e
theorem digs_sub_len {A B : Int} {k : Nat} (h1 : (digs A.natAbs).length ≤ k) (h2 : (digs B.natAbs).length ≤ k) : (digs (A - B).natAbs).length ≤ k + 1 :=
 Nat.le_trans (digs_length_mono (by omega : (A - B).natAbs ≤ A.natAbs + B.natAbs)) (digs_add_len h1 h2)
theorem zv_at {D : List Int} {K k : Nat} (h : k < D.length) : (D.map (fun z => Zv z K))[k]? = some (Zv (D.getD k 0) K) := by
 rw [List.getElem?_map, List.getElem?_eq_getElem h, List.getD_eq_getElem?_getD, List.getElem?_eq_getElem h]
 rfl
theorem vv_at {A : List (List Int)} {K k : Nat} (h : k < A.length) : (A.map (fun zs => Vv zs.length zs K))[k]? = some (Vv (A.getD k []).length (A.getD k []) K) := by
 rw [List.getElem?_map, List.getElem?_eq_getElem h, List.getD_eq_getElem?_getD, List.getElem?_eq_getElem h]
 rfl
/-- The dot product when the first rows have been taken out of both. -/
def tk (D L M : List Int) (z : Int) : Nat → Int
 | 0 => z
 | k + 1 => fl (D.getD (k + 1) 0 * tk D L M z k - L.getD k 0 * M.getD k 0) (D.getD k 0)
structure TkOk (D L M : List Int) (z : Int) (m K : Nat) : Prop where
 ne : ∀ k, k < m → D.getD k 0 ≠ 0
 ex : ∀ k, k < m → rm (D.getD (k + 1) 0 * tk D L M z k - L.getD k 0 * M.getD k 0) (D.getD k 0) = 0
 dl : ∀ k, k ≤ m → (digs (tk D L M z k).natAbs).length ≤ K
/-- What lies in the box behind k rounds. -/
def TkP (D L M : List Int) (z : Int) (K lo : Nat) : Nat → Pr
 | 0 => Zv z K
 | k + 1 => ZN (tk D L M z (k + 1)) lo
theorem tkp_zv {D L M : List Int} {z : Int} {K lo m k : Nat} (ok : TkOk D L M z m K) (hk : k ≤ m) : ∀ v w, TkP D L M z K lo k v w → Zv (tk D L M z k) K v w := fun v w h => by
 cases k with
 | zero => exact h
 | succ k => exact zn_zv (ok.dl _ hk) v w h
theorem tkp_zn {D L M : List Int} {z : Int} {K lo k : Nat} (hk : 0 < k) : ∀ v w, TkP D L M z K lo k v w → ZN (tk D L M z k) lo v w := fun v w h => by
 cases k with
 | zero => omega
 | succ k => exact h
end Go.Proofs.YtbgelajoomneiaaGreat

/-
 gso.takenOut.
-/
namespace Go.Proofs.YtbgelajoomneiaaGreat
open Go Go.RowKit Nt
set_option linter.unusedSimpArgs false
set_option linter.unusedVariables false
set_option maxRecDepth 20000


abbrev q1eix0 (s : Bool) (p : Option Addr) (nn : Nat) (c : Nat) : Rk := .box 32 (Is (.agg #[.bool s, .slice p nn c]))
set_option maxHeartbeats 400000 in
theorem taken_0 (w : World) (u0 u2 u3 : Value) (s : Bool) (p : Option Addr) (nn c K : Nat) (L : List Int) (h2 : Hs w (Vv 0 L K) u2) :
  Calls Tryz.prog 56 #[u0, .agg #[.bool s, .slice p nn c], u2, u3] w (Gives (IS (.agg #[.bool s, .slice p nn c])) w) := by
 refine calls_sta (sl := [(0, (fun _ _ => True)), (1, (Is (.agg #[.bool s, .slice p nn c]))), (2, (Vv 0 L K)), (3, (fun _ _ => True))]) Tryz.func56 rfl Tryz.ntmps56 (by simp) (args_cons rfl (fun _ _ => trivial) (args_cons rfl (is_has _) (args_cons rfl (h2) (args_cons rfl (fun _ _ => trivial) args_nil)))) ?_
 intro a0 S0
 refine wq [.new (q1eix0 s p nn c), .new (.box 32 zI)] [.inl 0, .inl 1] [.inr 0, .inr 2, .inr 3] S0 ?_ ?_
 ·apply jj2
  ·exact owe_box rfl wA rfl (oS 1 1) rfl (fun ρ w h => box_int shp_isz ρ _ _ w h)
  ·exact owe_new rfl wA rfl rfl (fun ρ w => alloc_int ρ _ w)
 intro _ a1 _ (S1 : Sta w 43 [(5, (q1eix0 s p nn c)), (8, (.box 32 zI))] [(0, (fun _ _ => True)), (2, Vv 0 L K), (3, (fun _ _ => True))] _ _ _)
 refine wp_seq ?_
 refine wq [.val (Vv 0 L K), .val (iV (0 : Nat)), .val (iV 0)] [.inr 0, .inr 1] [.inl 1, .inl 2, .inr 0, .inr 1, .inr 2] S1 ?_ ?_
 ·apply jj3
  ·exact mS 1 2
  ·exact owe_len rfl wA rfl (oO 0 10) ar_len Tryz.underlying23 rfl
  ·exact mC
 intro B2 a2 _ (S2 : Sta w 43 [(5, (q1eix0 s p nn c)), (8, (.box 32 zI))] [(11, iV (0 : Nat)), (12, iV 0), (0, (fun _ _ => True)), (2, Vv 0 L K), (3, (fun _ _ => True))] _ _ _)
 refine wp_block ?_
 refine wp_loop_ghost (fun (k0 : Nat) a W => (k0 = 0) ∧ ∃ Bq, Sta w 43 [(5, (q1eix0 s p nn c)), (8, (.box 32 zI))] [(11, iV (0 : Nat)), (12, iV (k0 : Nat)), (0, (fun _ _ => True)), (2, Vv 0 L K), (3, (fun _ _ => True))] Bq a W) (fun (k0 : Nat) => 0) ?_ 0 ⟨rfl, B2, S2.sub [0, 1] [0, 1, 2, 3, 4]⟩
 rintro k0 a3 _ ⟨hcond, _, S3⟩
 ·skip
  refine wq [kF] [.inr 0, .inr 1] [.inl 0, .inr 0, .inr 1, .inr 2, .inr 3, .inr 4] S3 ?_ ?_
  ·apply jj1
   ·exact b_lss_int_f wA (oS 1 12) (oS 0 11)
  intro _ a4 _ (S4 : Sta w 43 [(5, (q1eix0 s p nn c)), (8, (.box 32 zI))] [(13, bF), (11, iV (0 : Nat)), (12, iV (k0 : Nat)), (0, (fun _ _ => True)), (2, Vv 0 L K), (3, (fun _ _ => True))] _ _ _)
  refine wp_seq (wp_cond_false (S4.bool 0 13 rfl) (wp_exit (thenX (thenX (inBlkE (thenN ?_))))))
  refine wq [.val (Is (.agg #[.bool s, .slice p nn c])), .put (.inl 8) (q1eix0 s p nn c)] [.inr 0, .inr 1] [.inr 1, .inr 2, .inr 3, .inr 4, .inr 5] S4 ?_ ?_
  ·apply jj2
   ·exact lod 0 wA (loads_of strct_int shp_isz)
   ·exact owe_set rfl wA rfl (k := 1) rfl (by kernel_rfl) (oO 0 42) (stores_of strct_int shp_z0 shp_isz) rfl
  intro _ a5 _ (S5 : Sta w 43 [(5, (q1eix0 s p nn c)), (8, (q1eix0 s p nn c))] [(11, iV (0 : Nat)), (12, iV (k0 : Nat)), (0, (fun _ _ => True)), (2, Vv 0 L K), (3, (fun _ _ => True))] _ _ _)
  refine wp_ret ?_
  exact end_one S5 rfl (res_cell S5 1 8 rfl strct_int shp_isz)

abbrev q0b1f0 (w : World) (D : List Int) (L : List Int) (M : List Int) (z : Int) (k0 : Nat) : Pr := (ZN (fl (((D.getD (k0 + 1) 0) * (tk D L M z k0)) - ((L.getD k0 0) * (M.getD k0 0))) (D.getD k0 0))) w.heap.size
abbrev q0b1f1  : Rk := .box 32 zI
abbrev q0b1f2 (w : World) (D : List Int) (L : List Int) (M : List Int) (z : Int) (k0 : Nat) : Pr := (ZN (((D.getD (k0 + 1) 0) * (tk D L M z k0)) - ((L.getD k0 0) * (M.getD k0 0)))) w.heap.size
set_option maxHeartbeats 2000000 in
theorem taken_s (w : World) (u0 u1 u2 u3 : Value) (n1 m m2 K : Nat) (D L M : List Int) (z : Int) (h0 : Hs w (Vv n1 D K) u0) (h1 : Hs w (Zv z K) u1) (h2 : Hs w (Vv m L K) u2) (h3 : Hs w (Vv m2 M K) u3) (hn : m < n1) (hm : m ≤ m2) (h0m : 0 < m) (hK : K ≤ 1073741824) (hN : n1 ≤ 1048576) (ok : TkOk D L M z m K) :
  Calls Tryz.prog 56 #[u0, u1, u2, u3] w (Gives (ZN (tk D L M z m)) w) := by
 have lD := vv_len h0.now
 have lL := vv_len h2.now
 have lM := vv_len h3.now
 refine calls_sta (sl := [(0, (Vv n1 D K)), (1, (Zv z K)), (2, (Vv m L K)), (3, (Vv m2 M K))]) Tryz.func56 rfl Tryz.ntmps56 (by simp) (args_cons rfl (h0) (args_cons rfl (h1) (args_cons rfl (h2) (args_cons rfl (h3) args_nil)))) ?_
 intro a0 S0
 refine wq [.new (.box 32 (Zv z K)), .new (q0b1f1)] [.inl 0, .inl 1] [.inr 0, .inr 2, .inr 3] S0 ?_ ?_
 ·apply jj2
  ·exact owe_box rfl wA rfl (oS 1 1) rfl (fun ρ w h => box_int shp_zv ρ _ _ w h)
  ·exact owe_new rfl wA rfl rfl (fun ρ w => alloc_int ρ _ w)
 intro _ a1 _ (S1 : Sta w 43 [(5, (.box 32 (Zv z K))), (8, (q0b1f1))] [(0, Vv n1 D K), (2, Vv m L K), (3, Vv m2 M K)] _ _ _)
 refine wp_seq ?_
 refine wq [.val (Vv m L K), .val (iV (m : Nat)), .val (iV 0)] [.inr 0, .inr 1] [.inl 1, .inl 2, .inr 0, .inr 1, .inr 2] S1 ?_ ?_
 ·apply jj3
  ·exact mS 1 2
  ·exact owe_len rfl wA rfl (oO 0 10) ar_len Tryz.underlying23 rfl
  ·exact mC
 intro B2 a2 _ (S2 : Sta w 43 [(5, (.box 32 (Zv z K))), (8, (q0b1f1))] [(11, iV (m : Nat)), (12, iV 0), (0, Vv n1 D K), (2, Vv m L K), (3, Vv m2 M K)] _ _ _)
 refine wp_block ?_
 refine wp_loop_ghost (fun (k0 : Nat) a W => (k0 ≤ m) ∧ ∃ Bq, Sta w 43 [(5, (.box 32 (TkP D L M z K w.heap.size k0))), (8, (q0b1f1))] [(11, iV (m : Nat)), (12, iV (k0 : Nat)), (0, Vv n1 D K), (2, Vv m L K), (3, Vv m2 M K)] Bq a W) (fun (k0 : Nat) => m - k0) ?_ 0 ⟨Nat.zero_le _, B2, S2.sub [0, 1] [0, 1, 2, 3, 4]⟩
 rintro k0 a3 _ ⟨hcond, _, S3⟩
 by_cases hlt : k0 < m
 ·have hq0 := ok.dl k0 (by omega)
  have hD1 := vv_dl h0.now
  have hL1 := vv_dl h2.now
  have hM1 := vv_dl h3.now
  have hq1 : (digs ((D.getD (k0 + 1) 0) * (tk D L M z k0)).natAbs).length ≤ 2 * K := by rw [Int.natAbs_mul]; exact Nat.le_trans (digs_mul_len (dl_getD hD1 _) hq0) (by omega)
  have hq2 : (digs ((L.getD k0 0) * (M.getD k0 0)).natAbs).length ≤ 2 * K := by rw [Int.natAbs_mul]; exact Nat.le_trans (digs_mul_len (dl_getD hL1 _) (dl_getD hM1 _)) (by omega)
  have hq3 : (digs (((D.getD (k0 + 1) 0) * (tk D L M z k0)) - ((L.getD k0 0) * (M.getD k0 0))).natAbs).length ≤ 2 * K + 1 := digs_sub_len hq1 hq2
  have S3 := S3.reboxS 0 rfl (tkp_zv ok (by omega))
  refine wq [kT] [.inr 0, .inr 1] [.inl 0, .inr 0, .inr 1, .inr 2, .inr 3, .inr 4] S3 ?_ ?_
  ·apply jj1
   ·exact b_lss_int_t wA (oS 1 12) (oS 0 11)
  intro B4 a4 W4 (S4 : Sta w 43 [(5, (.box 32 (Zv (tk D L M z k0) K))), (8, (q0b1f1))] [(13, bT), (11, iV (m : Nat)), (12, iV (k0 : Nat)), (0, Vv n1 D K), (2, Vv m L K), (3, Vv m2 M K)] _ _ _)
  refine wp_seq (wp_cond_true (S4.bool 0 13 rfl) (wp_skip (thenN (wp_seq (wp_block ?_)))))
  refine wq [.val (iV (k0 : Nat)), .val (iV (k0 : Nat))] [.inr 0, .inr 1] [.inl 1, .inr 1, .inr 2, .inr 3, .inr 4, .inr 5] S4 ?_ ?_
  ·apply jj2
   ·exact mS 2 12
   ·exact mO 0 14
  intro B5 a5 W5 (S5 : Sta w 43 [(5, (.box 32 (Zv (tk D L M z k0) K))), (8, (q0b1f1))] [(9, iV (k0 : Nat)), (11, iV (m : Nat)), (12, iV (k0 : Nat)), (0, Vv n1 D K), (2, Vv m L K), (3, Vv m2 M K)] _ _ _)
  refine wq [.val (Vv n1 D K), .val (iV (k0 : Nat)), .val (iV ((k0 + 1 : Nat) : Int)), .val (AtE 2 (Zv (D.getD (k0 + 1) 0) K)), .val (Zv (D.getD (k0 + 1) 0) K), .val (Zv (tk D L M z k0) K), .val ((ZN ((D.getD (k0 + 1) 0) * (tk D L M z k0))) w.heap.size), .val (Vv m L K), .val (iV (k0 : Nat)), .val (AtE 2 (Zv (L.getD k0 0) K)), .val (Zv (L.getD k0 0) K), .val (Vv m2 M K), .val (iV (k0 : Nat)), .val (AtE 2 (Zv (M.getD k0 0) K)), .val (Zv (M.getD k0 0) K), .val ((ZN ((L.getD k0 0) * (M.getD k0 0))) w.heap.size), .val (q0b1f2 w D L M z k0), .put (.inl 5) (.box 32 (q0b1f2 w D L M z k0))] [.inr 0, .inr 1] [.inr 0, .inr 1, .inr 2, .inr 3, .inr 4, .inr 5] S5 ?_ ?_
  ·repeat' refine And.intro ?_ ?_
   ·trivial
   ·exact mS 3 0
   ·exact mS 0 9
   ·exact b_add_int wA (oO 1 16) (opnd_const _)
   ·exact owe_aindex rfl wA rfl idx_ints (oO 0 15) (oO 2 17) (zv_at (by omega)) rfl
   ·exact owe_aload rfl wA rfl ldr_int (by decide) (cel_shp (by decide) shp_zv) (oO 3 18) rfl
   ·exact lod 0 wA (loads_of strct_int shp_zv)
   ·exact cc2 wA (qO 4 19 rfl) (qO 5 20 rfl) (fresh_zn _) (fun w u v h1 h2 => g_zmul (by omega) w u v ((fun _ _ h => h) _ _ h1) ((fun _ _ h => h) _ _ h2))
   ·exact mS 4 2
   ·exact mS 0 9
   ·exact owe_aindex rfl wA rfl idx_ints (oO 7 22) (oO 8 23) (zv_at (by omega)) rfl
   ·exact owe_aload rfl wA rfl ldr_int (by decide) (cel_shp (by decide) shp_zv) (oO 9 24) rfl
   ·exact mS 5 3
   ·exact mS 0 9
   ·exact owe_aindex rfl wA rfl idx_ints (oO 11 26) (oO 12 27) (zv_at (by omega)) rfl
   ·exact owe_aload rfl wA rfl ldr_int (by decide) (cel_shp (by decide) shp_zv) (oO 13 28) rfl
   ·exact cc2 wA (qO 10 25 rfl) (qO 14 29 rfl) (fresh_zn _) (fun w u v h1 h2 => g_zmul (by omega) w u v ((fun _ _ h => h) _ _ h1) ((fun _ _ h => h) _ _ h2))
   ·exact cc2 wA (qO 6 21 rfl) (qO 15 30 rfl) (fresh_zn _) (fun w u v h1 h2 => g_zsub (by omega) (by omega) w u v ((zn_zv hq1) _ _ h1) ((zn_zv hq2) _ _ h2))
   ·exact owe_set rfl wA rfl (k := 0) rfl (by kernel_rfl) (oO 16 31) (stores_of strct_int shp_zv shp_zn) rfl
  intro _ a6 _ (S6 : Sta w 43 [(5, (.box 32 (q0b1f2 w D L M z k0))), (8, (q0b1f1))] [(9, iV (k0 : Nat)), (11, iV (m : Nat)), (12, iV (k0 : Nat)), (0, Vv n1 D K), (2, Vv m L K), (3, Vv m2 M K)] _ _ _)
  refine wr [.val (q0b1f2 w D L M z k0), .val (Vv n1 D K), .val (iV (k0 : Nat)), .val (AtE 2 (Zv (D.getD k0 0) K)), .val (Zv (D.getD k0 0) K), .val ((TWO (ZN (fl (((D.getD (k0 + 1) 0) * (tk D L M z k0)) - ((L.getD k0 0) * (M.getD k0 0))) (D.getD k0 0))) (IS (.int .i64 0))) w.heap.size), .val ((TWO (ZN (fl (((D.getD (k0 + 1) 0) * (tk D L M z k0)) - ((L.getD k0 0) * (M.getD k0 0))) (D.getD k0 0))) (IS (.int .i64 0))) w.heap.size), .val (q0b1f0 w D L M z k0), .val (iV 0), .put (.inl 5) (.box 32 (q0b1f0 w D L M z k0))] [.inr 0, .inr 1] [.inr 1, .inr 2, .inr 3, .inr 4, .inr 5] S6 ?_ ?_
  ·repeat' refine And.intro ?_ ?_
   ·trivial
   ·exact lod 0 wA (loads_of strct_int shp_zn)
   ·exact mS 3 0
   ·exact mS 0 9
   ·exact owe_aindex rfl wA rfl idx_ints (oO 1 34) (oO 2 35) (zv_at (by omega)) rfl
   ·exact owe_aload rfl wA rfl ldr_int (by decide) (cel_shp (by decide) shp_zv) (oO 3 36) rfl
   ·exact cc2 wA (qO 0 33 rfl) (qO 4 37 rfl) (fresh_two (fresh_zn _) (fresh_is _)) (fun w u v h1 h2 => g_zexact2 (ok.ne k0 hlt) (ok.ex k0 hlt) (by omega) w u v ((zn_zv hq3) _ _ h1) ((fun _ _ h => h) _ _ h2))
   ·exact mO 5 38
   ·exact e20 wA (oO 6 32)
   ·exact e21 wA (oO 6 32)
   ·exact owe_set rfl wA rfl (k := 0) rfl (by kernel_rfl) (oO 7 39) (stores_of strct_int shp_zn shp_zn) rfl
  intro _ a7 _ (S7 : Sta w 43 [(5, (.box 32 (q0b1f0 w D L M z k0))), (8, (q0b1f1))] [(11, iV (m : Nat)), (12, iV (k0 : Nat)), (0, Vv n1 D K), (2, Vv m L K), (3, Vv m2 M K)] _ _ _)
  refine inBlkN (thenN ?_)
  refine wr [.val (iV (k0 + 1 : Nat)), .val (iV (k0 + 1 : Nat))] [.inr 0, .inr 1] [.inl 1, .inr 0, .inr 2, .inr 3, .inr 4] S7 ?_ ?_
  ·apply jj2
   ·exact b_add_int wA (oS 1 12) (opnd_const _)
   ·exact mO 0 41
  intro B8 a8 _ (S8 : Sta w 43 [(5, (.box 32 (q0b1f0 w D L M z k0))), (8, (q0b1f1))] [(12, iV (k0 + 1 : Nat)), (11, iV (m : Nat)), (0, Vv n1 D K), (2, Vv m L K), (3, Vv m2 M K)] _ _ _)
  refine thenN ?_
  exact ⟨k0 + 1, ⟨by omega, B8, S8.sub [0, 1] [1, 0, 2, 3, 4]⟩, by omega⟩
 ·have ek : k0 = m := by omega
  rw [ek] at S3
  have S3 := S3.reboxS 0 rfl (tkp_zn h0m)
  refine wq [kF] [.inr 0, .inr 1] [.inl 0, .inr 0, .inr 1, .inr 2, .inr 3, .inr 4] S3 ?_ ?_
  ·apply jj1
   ·exact b_lss_int_f wA (oS 1 12) (oS 0 11)
  intro B4 a4 W4 (S4 : Sta w 43 [(5, (.box 32 ((ZN (tk D L M z m)) w.heap.size))), (8, (q0b1f1))] [(13, bF), (11, iV (m : Nat)), (12, iV (m : Nat)), (0, Vv n1 D K), (2, Vv m L K), (3, Vv m2 M K)] _ _ _)
  refine wp_seq (wp_cond_false (S4.bool 0 13 rfl) (wp_exit (thenX (thenX (inBlkE (thenN ?_))))))
  refine wq [.val ((ZN (tk D L M z m)) w.heap.size), .put (.inl 8) (.box 32 ((ZN (tk D L M z m)) w.heap.size))] [.inr 0, .inr 1] [.inr 1, .inr 2, .inr 3, .inr 4, .inr 5] S4 ?_ ?_
  ·apply jj2
   ·exact lod 0 wA (loads_of strct_int shp_zn)
   ·exact owe_set rfl wA rfl (k := 1) rfl (by kernel_rfl) (oO 0 42) (stores_of strct_int shp_z0 shp_zn) rfl
  intro B5 a5 W5 (S5 : Sta w 43 [(5, (.box 32 ((ZN (tk D L M z m)) w.heap.size))), (8, (.box 32 ((ZN (tk D L M z m)) w.heap.size)))] [(11, iV (m : Nat)), (12, iV (m : Nat)), (0, Vv n1 D K), (2, Vv m L K), (3, Vv m2 M K)] _ _ _)
  refine wp_ret ?_
  exact end_one S5 rfl (res_cell S5 1 8 rfl strct_int shp_zn)

end Go.Proofs.YtbgelajoomneiaaGreat

/-
 gso.left.
-/
namespace Go.Proofs.YtbgelajoomneiaaGreat
open Go Go.RowKit Nt
set_option linter.unusedSimpArgs false
set_option linter.unusedVariables false
set_option maxRecDepth 20000


def dotR (R B : List Int) : Int := sumZ (List.zipWith (· * ·) R B)
/-- The L of one more row. -/
def lfL (D : List Int) (L Bm : List (List Int)) (R : List Int) : Nat → List Int
 | 0 => []
 | j + 1 => lfL D L Bm R j ++ [tk D (lfL D L Bm R j) (L.getD j []) (dotR R (Bm.getD j [])) j]
theorem lfL_len (D : List Int) (L Bm : List (List Int)) (R : List Int) : ∀ j, (lfL D L Bm R j).length = j
 | 0 => rfl
 | j + 1 => by simp [lfL, lfL_len D L Bm R j]
structure LfOk (D : List Int) (L Bm : List (List Int)) (R : List Int) (m K : Nat) : Prop where
 row : ∀ j, j < m → TkOk D (lfL D L Bm R j) (L.getD j []) (dotR R (Bm.getD j [])) j K
 last : TkOk D (lfL D L Bm R m) (lfL D L Bm R m) (dotR R R) m K
theorem lf_dl {D : List Int} {L Bm : List (List Int)} {R : List Int} {m K : Nat} (ok : LfOk D L Bm R m K) : ∀ j, j ≤ m → Dl (lfL D L Bm R j) K
 | 0, _ => fun i z h => by simp [lfL] at h
 | j + 1, hj => fun i z h => by
  have hl := lfL_len D L Bm R j
  rcases Nat.lt_or_ge i j with h1 | h1
  ·rw [lfL, List.getElem?_append_left (by omega)] at h
   exact lf_dl ok j (by omega) i z h
  ·rw [lfL, List.getElem?_append_right (by omega)] at h
   cases hi : i - (lfL D L Bm R j).length with
   | zero => rw [hi] at h; simp at h; rw [← h]; exact (ok.row j (by omega)).dl j (Nat.le_refl _)
   | succ t => rw [hi] at h; simp at h
section
variable {ops : Array Oper} {l : List Kd} {bx : Bxs} {sl : List (Tmp × Pr)} {i : Nat} {o : Oper} {Q : Exit → Act → World → Prop} {a0 : Act} {n : Nat} {w0 : World} {vs : Nat → Value} {B : Nat → Prop} {a : Act} {w : World}
theorem taken_any (c : Ctx ops l bx sl a0 n w0 i vs B a w) {v0 v1 v2 v3 : Value} {n1 m m2 K : Nat} {D L M : List Int} {z : Int} (h0 : Hs w (Vv n1 D K) v0) (h1 : Has B w (ZN z w0.heap.size) v1) (h2 : Hs w (Vv m L K) v2) (h3 : Hs w (Vv m2 M K) v3) (hn : m < n1) (hm : m ≤ m2) (hK : K ≤ 1073741824) (hN : n1 ≤ 1048576) (ok : TkOk D L M z m K) :
  Calls Tryz.prog 56 #[v0, v1, v2, v3] w fun e w' => ∃ r, e = .returned r ∧ Below w.heap.size w w' ∧ Has B w' (ZN (tk D L M z m) w0.heap.size) r := by
 cases m with
 | zero =>
  obtain ⟨r, c', rfl, _⟩ := id h1.now
  refine (taken_0 w v0 v2 v3 _ _ _ _ K L h2).mono ?_
  rintro e w' ⟨v, rfl, hb, hv⟩
  obtain rfl : v = _ := hv
  exact ⟨_, rfl, hb, h1.go (Ev.of_below hb) (fun _ _ h => h)⟩
 | succ m => exact (taken_s w v0 v1 v2 v3 n1 (m + 1) m2 K D L M z h0 (h1.hs.imp (fun w => zn_zv (ok.dl 0 (by omega)) v1 w)) h2 h3 hn hm (by omega) hK hN ok).mono (fun e w' h => gives_has (fresh_zn _) c h)
end
section
variable {ops : Array Oper} {l : List Kd} {bx : Bxs} {sl : List (Tmp × Pr)} {i : Nat} {o : Oper} {Q : Exit → Act → World → Prop} {a0 : Act} {n : Nat} {w0 : World}
theorem owe_takenR {x0 x1 x2 x3 : Operand} {ts : Array TypeId} {t kk E n1 m m2 K : Nat} {D L M : List Int} {z : Int} (ho : ops[i]? = some o) (hw : Wants ops l bx sl i o) (hop : o.op = .call { callee := .value (.func 56), args := #[x0, x1, x2, x3], argTypes := ts })
    (h0 : Opnd ops l bx sl i x0 (Vv n1 D K)) (h1 : Opnd ops l bx sl i x1 (ZN z w0.heap.size)) (h2 : Opnd ops l bx sl i x2 (Is (a0.eval (.tmp t)))) (h3 : Opnd ops l bx sl i x3 (Vv m2 M K)) (hb : bx[kk]? = some (t, .row E 2 m (CE 2 ((L.map ZN).map (· w0.heap.size))))) (hu : unturned ops l i (.inl t) = true)
    (hL : Dl L K) (hn : m < n1) (hm : m ≤ m2) (hK : K ≤ 1073741824) (hN : n1 ≤ 1048576) (ok : TkOk D L M z m K) (hk : kdAt l i = .val (ZN (tk D L M z m) w0.heap.size)) : Owed Tryz.prog ops Q l bx sl a0 n w0 i :=
  owe_callW ho hw hop hk (fun args w => by go_simp) fun vs B a w c => by
    rw [show (#[x0, x1, x2, x3] : Array Operand).map a.eval = #[a.eval x0, a.eval x1, a.eval x2, a.eval x3] from by simp]
    have e2 : a.eval x2 = a0.eval (.tmp t) := (h2 a0 n w0 vs B a w c).now
    have h2' : Hs w (Vv m L K) (a.eval x2) := by
      rw [e2]
      exact row_hs (c.box t _ (List.mem_of_getElem? hb) hu) (fun v w ys ho hc => vn_vv hL v w (row_lf (by decide) v w ys ho hc))
    exact taken_any c (h0 a0 n w0 vs B a w c).hs (h1 a0 n w0 vs B a w c) h2' (h3 a0 n w0 vs B a w c).hs hn hm hK hN ok
theorem owe_takenV {x0 x1 x2 x3 : Operand} {ts : Array TypeId} {n1 m m2 K : Nat} {D L M : List Int} {z : Int} (ho : ops[i]? = some o) (hw : Wants ops l bx sl i o) (hop : o.op = .call { callee := .value (.func 56), args := #[x0, x1, x2, x3], argTypes := ts })
    (h0 : Opnd ops l bx sl i x0 (Vv n1 D K)) (h1 : Opnd ops l bx sl i x1 (ZN z w0.heap.size)) (h2 : Opnd ops l bx sl i x2 (Vv m L K)) (h3 : Opnd ops l bx sl i x3 (Vv m2 M K))
    (hn : m < n1) (hm : m ≤ m2) (hK : K ≤ 1073741824) (hN : n1 ≤ 1048576) (ok : TkOk D L M z m K) (hk : kdAt l i = .val (ZN (tk D L M z m) w0.heap.size)) : Owed Tryz.prog ops Q l bx sl a0 n w0 i :=
  owe_callW ho hw hop hk (fun args w => by go_simp) fun vs B a w c => by
    rw [show (#[x0, x1, x2, x3] : Array Operand).map a.eval = #[a.eval x0, a.eval x1, a.eval x2, a.eval x3] from by simp]
    exact taken_any c (h0 a0 n w0 vs B a w c).hs (h1 a0 n w0 vs B a w c) (h2 a0 n w0 vs B a w c).hs (h3 a0 n w0 vs B a w c).hs hn hm hK hN ok
end

abbrev qsoh40 (n0 : Nat) (K : Nat) (D : List Int) (L : List (List Int)) : Rk := .box 26 (SF [(Vv (n0 + 1) D K), (Mv n0 L K)])
abbrev qsoh41  : Rk := .box 32 zI
set_option maxHeartbeats 4000000 in
theorem left_w (w : World) (u0 u1 u2 : Value) (n0 nb x K : Nat) (D : List Int) (L Bm : List (List Int)) (R : List Int) (h0 : Hs w (SF [Vv (n0 + 1) D K, Mv n0 L K]) u0) (h1 : Hs w (Mv nb Bm K) u1) (h2 : Hs w (Vv x R K) u2) (hnb : n0 ≤ nb) (hn : n0 ≤ 1048000) (hx : x ≤ 1048576) (hK : K ≤ 500000000) (lL : L.length = n0) (lB : Bm.length = nb) (hLl : ∀ j, j < n0 → (L.getD j []).length = j) (hBl : ∀ j, j < n0 → (Bm.getD j []).length = x) (ok : LfOk D L Bm R n0 K) :
  Calls Tryz.prog 32 #[u0, u1, u2] w (Gives (TWO (VN n0 (lfL D L Bm R n0)) (ZN (tk D (lfL D L Bm R n0) (lfL D L Bm R n0) (dotR R R) n0))) w) := by
 refine calls_sta (sl := [(0, (SF [(Vv (n0 + 1) D K), (Mv n0 L K)])), (1, (Mv nb Bm K)), (2, (Vv x R K))]) Tryz.func32 rfl Tryz.ntmps32 (by simp) (args_cons rfl (h0) (args_cons rfl (h1) (args_cons rfl (h2) args_nil))) ?_
 intro a0 S0
 refine wq [.new (qsoh40 n0 K D L), .val (Is (.slice none 0 0)), .new (qsoh41)] [.inl 0, .inl 2] [.inr 1, .inr 2] S0 ?_ ?_
 ·apply jj3
  ·exact owe_box rfl wA rfl (oS 0 0) rfl (fun ρ w h => box_gso shp_sf2 ρ _ _ w h)
  ·exact mC
  ·exact owe_new rfl wA rfl rfl (fun ρ w => alloc_int ρ _ w)
 intro _ a1 _ (S1 : Sta w 52 [(3, (qsoh40 n0 K D L)), (7, (qsoh41))] [(1, Mv nb Bm K), (2, Vv x R K)] _ _ _)
 refine wq [.val (Part a1 3 1), .val (Mv n0 L K), .val (iV (n0 : Nat)), .new (.row 32 2 0 (CE 2 (((lfL D L Bm R 0).map ZN).map (· w.heap.size)))), .ref 3] [.inr 0, .inr 1, .inl 4] [.inr 0, .inr 1] S1 ?_ ?_
 ·apply jj5
  ·exact owe_part rfl wA rfl (k := 0) rfl (by kernel_rfl) rfl (fun ρ w b h => part_gso1 ρ _ _ w b 0 h)
  ·exact owe_pload rfl wA rfl (oO 0 13) (k := 0) rfl (by kernel_rfl) rfl (fun ρ w b u h1 h2 h3 => ploadS rfl load1_mat ρ _ _ w b u h1 h2 h3)
  ·exact owe_len rfl wA rfl (oO 1 14) ar_len Tryz.underlying22 rfl
  ·exact owe_make0 rfl wA rfl Tryz.underlying23 infoInt (oO 2 15) ⟨by omega, by unfold maxLen; omega⟩ ce_nil rfl
  ·exact owe_ref 3 rfl wA (Or.inr rfl) (by kernel_rfl) rfl rfl
 intro _ a2 _ (S2 : Sta w 52 [(3, (qsoh40 n0 K D L)), (7, (qsoh41)), (8, (.row 32 2 0 (CE 2 (((lfL D L Bm R 0).map ZN).map (· w.heap.size)))))] [(1, Mv nb Bm K), (2, Vv x R K)] _ _ _)
 refine wp_seq ?_
 refine wq [.val (Part a2 3 1), .val (Mv n0 L K), .val (iV (n0 : Nat)), .val (iV 0)] [.inr 0, .inr 1, .inr 2] [.inl 1, .inl 2, .inl 3, .inr 0, .inr 1] S2 ?_ ?_
 ·apply jj4
  ·exact owe_part rfl wA rfl (k := 0) rfl (by kernel_rfl) rfl (fun ρ w b h => part_gso1 ρ _ _ w b 0 h)
  ·exact owe_pload rfl wA rfl (oO 0 17) (k := 0) rfl (by kernel_rfl) rfl (fun ρ w b u h1 h2 h3 => ploadS rfl load1_mat ρ _ _ w b u h1 h2 h3)
  ·exact owe_len rfl wA rfl (oO 1 18) ar_len Tryz.underlying22 rfl
  ·exact mC
 intro B3 a3 _ (S3 : Sta w 52 [(3, (qsoh40 n0 K D L)), (7, (qsoh41)), (8, (.row 32 2 0 (CE 2 (((lfL D L Bm R 0).map ZN).map (· w.heap.size)))))] [(18, Mv n0 L K), (19, iV (n0 : Nat)), (20, iV 0), (1, Mv nb Bm K), (2, Vv x R K)] _ _ _)
 refine wp_block ?_
 refine wp_loop_ghost (fun (k0 : Nat) a W => (k0 ≤ n0) ∧ ∃ Bq, Sta w 52 [(3, (qsoh40 n0 K D L)), (7, (qsoh41)), (8, (.row 32 2 k0 (CE 2 (((lfL D L Bm R k0).map ZN).map (· w.heap.size)))))] [(18, Mv n0 L K), (19, iV (n0 : Nat)), (20, iV (k0 : Nat)), (1, Mv nb Bm K), (2, Vv x R K)] Bq a W) (fun (k0 : Nat) => n0 - k0) ?_ 0 ⟨Nat.zero_le _, B3, S3.sub [0, 1, 2] [0, 1, 2, 3, 4]⟩
 rintro k0 a4 _ ⟨hcond, _, S4⟩
 by_cases hlt : k0 < n0
 ·have hl1 := hLl k0 hlt
  have hl2 := hBl k0 hlt
  refine wq [kT] [.inr 0, .inr 1, .inr 2] [.inl 0, .inr 0, .inr 1, .inr 2, .inr 3, .inr 4] S4 ?_ ?_
  ·apply jj1
   ·exact b_lss_int_t wA (oS 2 20) (oS 1 19)
  intro B5 a5 W5 (S5 : Sta w 52 [(3, (qsoh40 n0 K D L)), (7, (qsoh41)), (8, (.row 32 2 k0 (CE 2 (((lfL D L Bm R k0).map ZN).map (· w.heap.size)))))] [(21, bT), (18, Mv n0 L K), (19, iV (n0 : Nat)), (20, iV (k0 : Nat)), (1, Mv nb Bm K), (2, Vv x R K)] _ _ _)
  refine wp_seq (wp_cond_true (S5.bool 0 21 rfl) (wp_skip (thenN (wp_seq (wp_block ?_)))))
  refine wq [.val (iV (k0 : Nat)), .val (AtE 1 (Vv k0 (L.getD k0 []) K)), .val (Vv k0 (L.getD k0 []) K), .val (iV (k0 : Nat)), .val (Vv k0 (L.getD k0 []) K)] [.inr 0, .inr 1, .inr 2] [.inl 3, .inl 4, .inr 1, .inr 2, .inr 3, .inr 4, .inr 5] S5 ?_ ?_
  ·apply jj5
   ·exact mS 3 20
   ·exact owe_aindex rfl wA rfl idx_rows (oS 1 18) (oS 3 20) (by have q := vv_at (A := L) (K := K) (k := k0) (by omega); rw [hl1] at q; exact q) rfl
   ·exact owe_aload rfl wA rfl ldr_row1 (by decide) cel_vv (oO 1 23) rfl
   ·exact mO 0 22
   ·exact mO 2 24
  intro B6 a6 W6 (S6 : Sta w 52 [(3, (qsoh40 n0 K D L)), (7, (qsoh41)), (8, (.row 32 2 k0 (CE 2 (((lfL D L Bm R k0).map ZN).map (· w.heap.size)))))] [(9, iV (k0 : Nat)), (10, Vv k0 (L.getD k0 []) K), (18, Mv n0 L K), (19, iV (n0 : Nat)), (20, iV (k0 : Nat)), (1, Mv nb Bm K), (2, Vv x R K)] _ _ _)
  refine wq [.val (Vv x R K), .val (Mv nb Bm K), .val (iV (k0 : Nat)), .val (AtE 1 (Vv x (Bm.getD k0 []) K)), .val (Vv x (Bm.getD k0 []) K), .val ((TWO (ZN (dotR R (Bm.getD k0 []))) (IS (.int .i64 0))) w.heap.size), .val ((TWO (ZN (dotR R (Bm.getD k0 []))) (IS (.int .i64 0))) w.heap.size), .val ((ZN (dotR R (Bm.getD k0 []))) w.heap.size), .val (iV 0), .new (qsoh41), .put (.inr 9) (.box 32 ((ZN (dotR R (Bm.getD k0 []))) w.heap.size)), .val (iV 0)] [.inr 0, .inr 1, .inr 2, .inl 9] [.inr 1, .inr 2, .inr 3, .inr 4, .inr 5, .inr 6] S6 ?_ ?_
  ·repeat' refine And.intro ?_ ?_
   ·trivial
   ·exact mS 6 2
   ·exact mS 5 1
   ·exact mS 0 9
   ·exact owe_aindex rfl wA rfl idx_rows (oO 1 27) (oO 2 28) (by have q := vv_at (A := Bm) (K := K) (k := k0) (by omega); rw [hl2] at q; exact q) rfl
   ·exact owe_aload rfl wA rfl ldr_row1 (by decide) cel_vv (oO 3 29) rfl
   ·exact ch2 wA (qO 0 26 rfl) (qO 4 30 rfl) (fresh_two (fresh_zn _) (fresh_is _)) (fun w u v h1 h2 => dot_y w u v x K K R (Bm.getD k0 []) h1 h2 (by omega) (by omega))
   ·exact mO 5 31
   ·exact e20 wA (oO 6 25)
   ·exact e21 wA (oO 6 25)
   ·exact owe_new rfl wA rfl rfl (fun ρ w => alloc_int ρ _ w)
   ·exact owe_put 9 rfl wA rfl (by kernel_rfl) rfl (oO 7 32) (stores_of strct_int shp_z0 shp_zn) rfl
   ·exact mO 8 33
  intro B7 a7 W7 (S7 : Sta w 52 [(3, (qsoh40 n0 K D L)), (7, (qsoh41)), (8, (.row 32 2 k0 (CE 2 (((lfL D L Bm R k0).map ZN).map (· w.heap.size))))), (11, (.box 32 ((ZN (dotR R (Bm.getD k0 []))) w.heap.size)))] [(10, Vv k0 (L.getD k0 []) K), (18, Mv n0 L K), (19, iV (n0 : Nat)), (20, iV (k0 : Nat)), (1, Mv nb Bm K), (2, Vv x R K)] _ _ _)
  refine wr [.val (Is (a7.eval (.tmp 8))), .val (Part a7 3 0), .val (Vv (n0 + 1) D K), .val ((ZN (dotR R (Bm.getD k0 []))) w.heap.size), .val (Is (a7.eval (.tmp 8))), .val (Vv k0 (L.getD k0 []) K), .val ((ZN (tk D (lfL D L Bm R k0) (L.getD k0 []) (dotR R (Bm.getD k0 [])) k0)) w.heap.size), .val (Sng 32 2 ((ZN (tk D (lfL D L Bm R k0) (L.getD k0 []) (dotR R (Bm.getD k0 [])) k0)) w.heap.size) w.heap.size), .mov 8 (.row 32 2 (k0 + 1) (CE 2 (((lfL D L Bm R (k0 + 1)).map ZN).map (· w.heap.size)))), .ref 8] [.inr 0, .inr 1, .inl 9] [.inr 1, .inr 2, .inr 3, .inr 4, .inr 5] S7 ?_ ?_
  ·repeat' refine And.intro ?_ ?_
   ·trivial
   ·exact owe_same rfl wA (Or.inl rfl) (by kernel_rfl) rfl
   ·exact owe_part rfl wA rfl (k := 0) rfl (by kernel_rfl) rfl (fun ρ w b h => part_gso0 ρ _ _ w b 0 h)
   ·exact owe_pload rfl wA rfl (oO 1 35) (k := 0) rfl (by kernel_rfl) rfl (fun ρ w b u h1 h2 h3 => ploadS rfl load1_vec ρ _ _ w b u h1 h2 h3)
   ·exact lod 3 wA (loads_of strct_int shp_zn)
   ·exact owe_same rfl wA (Or.inl rfl) (by kernel_rfl) rfl
   ·exact mS 0 10
   ·exact owe_takenR (t := 8) (kk := 2) rfl wA rfl (oO 2 36) (oO 3 37) (oO 4 38) (oO 5 39) rfl (by kernel_rfl) (lf_dl ok k0 (by omega)) (by omega) (by omega) (by omega) (by omega) (ok.row k0 hlt) rfl
   ·exact owe_b1 rfl wA rfl bld_int (oO 6 40) (cel_shp (by decide) shp_zn) rfl
   ·exact owe_append rfl wA rfl (oO 0 34) (k := 2) rfl (by kernel_rfl) ((oO 7 41).imp b1_src) einf_int Tryz.underlying23 (by decide) ⟨by unfold maxLen; omega, by omega⟩ rfl (fun xs ys w h1 h2 => by simp only [lfL, List.map_append, List.map_cons, List.map_nil]; exact ce_append _ _ _ h1 h2)
   ·exact owe_ref 8 rfl wA (Or.inr rfl) (by kernel_rfl) rfl rfl
  intro _ a8 _ (S8 : Sta w 52 [(3, (qsoh40 n0 K D L)), (7, (qsoh41)), (8, (.row 32 2 (k0 + 1) (CE 2 (((lfL D L Bm R (k0 + 1)).map ZN).map (· w.heap.size)))))] [(18, Mv n0 L K), (19, iV (n0 : Nat)), (20, iV (k0 : Nat)), (1, Mv nb Bm K), (2, Vv x R K)] _ _ _)
  refine inBlkN (thenN ?_)
  refine wr [.val (iV (k0 + 1 : Nat)), .val (iV (k0 + 1 : Nat))] [.inr 0, .inr 1, .inr 2] [.inl 1, .inr 0, .inr 1, .inr 3, .inr 4] S8 ?_ ?_
  ·apply jj2
   ·exact b_add_int wA (oS 2 20) (opnd_const _)
   ·exact mO 0 43
  intro B9 a9 _ (S9 : Sta w 52 [(3, (qsoh40 n0 K D L)), (7, (qsoh41)), (8, (.row 32 2 (k0 + 1) (CE 2 (((lfL D L Bm R (k0 + 1)).map ZN).map (· w.heap.size)))))] [(20, iV (k0 + 1 : Nat)), (18, Mv n0 L K), (19, iV (n0 : Nat)), (1, Mv nb Bm K), (2, Vv x R K)] _ _ _)
  refine thenN ?_
  exact ⟨k0 + 1, ⟨by omega, B9, S9.sub [0, 1, 2] [1, 2, 0, 3, 4]⟩, by omega⟩
 ·have ek : k0 = n0 := by omega
  rw [ek] at S4
  refine wq [kF] [.inr 0, .inr 1, .inr 2] [.inl 0, .inr 0, .inr 1, .inr 2, .inr 3, .inr 4] S4 ?_ ?_
  ·apply jj1
   ·exact b_lss_int_f wA (oS 2 20) (oS 1 19)
  intro B5 a5 W5 (S5 : Sta w 52 [(3, (qsoh40 n0 K D L)), (7, (qsoh41)), (8, (.row 32 2 n0 (CE 2 (((lfL D L Bm R n0).map ZN).map (· w.heap.size)))))] [(21, bF), (18, Mv n0 L K), (19, iV (n0 : Nat)), (20, iV (n0 : Nat)), (1, Mv nb Bm K), (2, Vv x R K)] _ _ _)
  refine wp_seq (wp_cond_false (S5.bool 0 21 rfl) (wp_exit (thenX (thenX (inBlkE (thenN ?_))))))
  obtain ⟨B6, S6⟩ : ∃ Bq, Sta w 52 [(3, (qsoh40 n0 K D L)), (7, (qsoh41))] [(8, ((VN n0 (lfL D L Bm R n0)) w.heap.size)), (21, bF), (18, Mv n0 L K), (19, iV (n0 : Nat)), (20, iV (n0 : Nat)), (1, Mv nb Bm K), (2, Vv x R K)] Bq a5 W5 := ⟨_, S5.freeze 2 rfl (by simp) (fun v w' xs ho hc => row_lf (by decide) v w' xs ho hc)⟩
  obtain ⟨a6, W6, e1, e2⟩ : ∃ a W, a5 = a ∧ W5 = W := ⟨_, _, rfl, rfl⟩
  rw [e1, e2] at S6 ⊢
  clear e1 e2
  refine wq [.val ((VN n0 (lfL D L Bm R n0)) w.heap.size), .val (Part a6 3 0), .val (Vv (n0 + 1) D K), .val (Vv x R K), .val ((ZN (dotR R R)) w.heap.size), .val ((VN n0 (lfL D L Bm R n0)) w.heap.size), .val ((VN n0 (lfL D L Bm R n0)) w.heap.size), .val ((ZN (tk D (lfL D L Bm R n0) (lfL D L Bm R n0) (dotR R R) n0)) w.heap.size), .val ((VN n0 (lfL D L Bm R n0)) w.heap.size), .put (.inl 7) (.box 32 ((ZN (tk D (lfL D L Bm R n0) (lfL D L Bm R n0) (dotR R R) n0)) w.heap.size))] [.inr 0, .inr 1] [.inl 8, .inr 0, .inr 2, .inr 3, .inr 4, .inr 5, .inr 6] S6 ?_ ?_
  ·repeat' refine And.intro ?_ ?_
   ·trivial
   ·exact mS 0 8
   ·exact owe_part rfl wA rfl (k := 0) rfl (by kernel_rfl) rfl (fun ρ w b h => part_gso0 ρ _ _ w b 0 h)
   ·exact owe_pload rfl wA rfl (oO 1 45) (k := 0) rfl (by kernel_rfl) rfl (fun ρ w b u h1 h2 h3 => ploadS rfl load1_vec ρ _ _ w b u h1 h2 h3)
   ·exact mS 6 2
   ·exact ch1 wA (qO 3 47 rfl) (fresh_zn _) (fun w u h1 => norm_w w u x K R h1 (by omega) (by omega))
   ·exact mS 0 8
   ·exact mS 0 8
   ·exact owe_takenV rfl wA rfl (oO 2 46) (oO 4 48) ((oO 5 49).imp (vn_vv (lf_dl ok n0 (Nat.le_refl _)))) ((oO 6 50).imp (vn_vv (lf_dl ok n0 (Nat.le_refl _)))) (by omega) (by omega) (by omega) (by omega) ok.last rfl
   ·exact mO 0 44
   ·exact owe_set rfl wA rfl (k := 1) rfl (by kernel_rfl) (oO 7 51) (stores_of strct_int shp_z0 shp_zn) rfl
  intro B7 a7 W7 (S7 : Sta w 52 [(3, (qsoh40 n0 K D L)), (7, (.box 32 ((ZN (tk D (lfL D L Bm R n0) (lfL D L Bm R n0) (dotR R R) n0)) w.heap.size)))] [(6, ((VN n0 (lfL D L Bm R n0)) w.heap.size)), (8, ((VN n0 (lfL D L Bm R n0)) w.heap.size)), (18, Mv n0 L K), (19, iV (n0 : Nat)), (20, iV (n0 : Nat)), (1, Mv nb Bm K), (2, Vv x R K)] _ _ _)
  refine wp_ret ?_
  exact end_two S7 rfl (res_tmp S7 0 6 rfl) (res_cell S7 1 7 rfl strct_int shp_zn)

end Go.Proofs.YtbgelajoomneiaaGreat

/-
 gso.framed, where it is well.
-/
namespace Go.Proofs.YtbgelajoomneiaaGreat
open Go Go.RowKit Nt
set_option linter.unusedSimpArgs false
set_option linter.unusedVariables false
set_option maxRecDepth 20000


/-- No row is too wide. -/
def nar (A : List (List Int)) : Prop := ∀ (i : Nat) r, A[i]? = some r → r.length ≤ 12

set_option maxHeartbeats 400000 in
theorem wide_n (w : World) (u : Value) (n k : Nat) (As : List Int) (h : Hs w (Vv n As k) u) (hn : n ≤ 12) :
  Calls Tryz.prog 52 #[u] w (Gives (IS (.bool false)) w) := by
 refine calls_sta (sl := [(0, (Vv n As k))]) Tryz.func52 rfl Tryz.ntmps52 (by simp) (args_cons rfl (h) args_nil) ?_
 intro a0 S0
 refine wq [kF] [] [.inr 0] S0 ?_ ?_
 ·apply jj1
  ·exact mC
 intro _ a1 _ (S1 : Sta w 6 [] [(0, Vv n As k)] _ _ _)
 refine wq [.val (Vv n As k), .val (iV (n : Nat)), kF, kF] [] [.inl 3] S1 ?_ ?_
 ·apply jj4
  ·exact mS 0 0
  ·exact owe_len rfl wA rfl (oO 0 3) ar_len Tryz.underlying23 rfl
  ·exact b_gtr_int_f wA (oO 1 4) (opnd_const _)
  ·exact mO 2 5
 intro _ a2 _ (S2 : Sta w 6 [] [(2, bF)] _ _ _)
 refine wp_ret ?_
 exact end_one S2 rfl (res_tmp S2 0 2 rfl)

set_option maxHeartbeats 400000 in
theorem idxr_n (w : World) (u f : Value) (n k : Nat) (A : List (List Int)) (h : Hs w (Mv n A k) u) (hn : n ≤ 1048576) (lA : A.length = n) (hf : Hs w (Fn1 (A.map (fun zs => Vv zs.length zs k)) (A.map (fun _ => IS (.bool false)))) f) :
  Calls Tryz.prog 75 #[u, f] w (Gives (IS (.int .i64 (-1))) w) := by
 refine calls_sta (sl := [(0, (Mv n A k)), (1, (Fn1 (A.map (fun zs => Vv zs.length zs k)) (A.map (fun _ => IS (.bool false)))))]) Tryz.func75 rfl Tryz.ntmps75 (by simp) (args_cons rfl (h) (args_cons rfl (hf) args_nil)) ?_
 intro a0 S0
 refine wq [.val (iV 0)] [] [.inr 0, .inr 1] S0 ?_ ?_
 ·apply jj1
  ·exact mC
 intro _ a1 _ (S1 : Sta w 19 [] [(0, Mv n A k), (1, (Fn1 (A.map (fun zs => Vv zs.length zs k)) (A.map (fun _ => IS (.bool false)))))] _ _ _)
 refine wp_seq ?_
 refine wq [.val (Mv n A k), .val (iV (n : Nat)), .val (iV 0)] [] [.inl 1, .inl 2, .inr 0, .inr 1] S1 ?_ ?_
 ·apply jj3
  ·exact mS 0 0
  ·exact owe_len rfl wA rfl (oO 0 6) ar_len Tryz.underlying22 rfl
  ·exact mC
 intro B2 a2 _ (S2 : Sta w 19 [] [(7, iV (n : Nat)), (8, iV 0), (0, Mv n A k), (1, (Fn1 (A.map (fun zs => Vv zs.length zs k)) (A.map (fun _ => IS (.bool false)))))] _ _ _)
 refine wp_block ?_
 refine wp_loop_ghost (fun (k0 : Nat) a W => (k0 ≤ n) ∧ ∃ Bq, Sta w 19 [] [(7, iV (n : Nat)), (8, iV (k0 : Nat)), (0, Mv n A k), (1, (Fn1 (A.map (fun zs => Vv zs.length zs k)) (A.map (fun _ => IS (.bool false)))))] Bq a W) (fun (k0 : Nat) => n - k0) ?_ 0 ⟨Nat.zero_le _, B2, S2.sub [] [0, 1, 2, 3]⟩
 rintro k0 a3 _ ⟨hcond, _, S3⟩
 by_cases hlt : k0 < n
 ·have hr := vv_at (A := A) (K := k) (k := k0) (by omega)
  have hz := map_get' (fun _ => IS (.bool false)) (List.getElem?_eq_getElem (show k0 < A.length by omega))
  refine wq [kT] [] [.inl 0, .inr 0, .inr 1, .inr 2, .inr 3] S3 ?_ ?_
  ·apply jj1
   ·exact b_lss_int_t wA (oS 1 8) (oS 0 7)
  intro B4 a4 W4 (S4 : Sta w 19 [] [(9, bT), (7, iV (n : Nat)), (8, iV (k0 : Nat)), (0, Mv n A k), (1, (Fn1 (A.map (fun zs => Vv zs.length zs k)) (A.map (fun _ => IS (.bool false)))))] _ _ _)
  refine wp_seq (wp_cond_true (S4.bool 0 9 rfl) (wp_skip (thenN (wp_seq (wp_block ?_)))))
  refine wq [.val (iV (k0 : Nat)), .val (iV (k0 : Nat))] [] [.inl 1, .inr 1, .inr 2, .inr 3, .inr 4] S4 ?_ ?_
  ·apply jj2
   ·exact mS 2 8
   ·exact mO 0 10
  intro B5 a5 W5 (S5 : Sta w 19 [] [(5, iV (k0 : Nat)), (7, iV (n : Nat)), (8, iV (k0 : Nat)), (0, Mv n A k), (1, (Fn1 (A.map (fun zs => Vv zs.length zs k)) (A.map (fun _ => IS (.bool false)))))] _ _ _)
  refine wq [.val (Fn1 (A.map (fun zs => Vv zs.length zs k)) (A.map (fun _ => IS (.bool false)))), .val (Mv n A k), .val (iV (k0 : Nat)), .val (AtE 1 (Vv ((A.getD k0 []).length) (A.getD k0 []) k)), .val (Vv ((A.getD k0 []).length) (A.getD k0 []) k), kF] [] [.inl 5, .inr 0, .inr 1, .inr 2, .inr 3, .inr 4] S5 ?_ ?_
  ·apply jj6
   ·exact mS 4 1
   ·exact mS 3 0
   ·exact mS 0 5
   ·exact owe_aindex rfl wA rfl idx_rows (oO 1 12) (oO 2 13) hr rfl
   ·exact owe_aload rfl wA rfl ldr_row1 (by decide) cel_vv (oO 3 14) rfl
   ·exact owe_callv1 k0 rfl wA rfl (oO 0 11) hr hz (oO 4 15) (fresh_is _) rfl
  intro _ a6 _ (S6 : Sta w 19 [] [(16, bF), (5, iV (k0 : Nat)), (7, iV (n : Nat)), (8, iV (k0 : Nat)), (0, Mv n A k), (1, (Fn1 (A.map (fun zs => Vv zs.length zs k)) (A.map (fun _ => IS (.bool false)))))] _ _ _)
  refine wp_cond_false (S6.bool 0 16 rfl) (wp_skip (inBlkN (thenN ?_)))
  refine wr [.val (iV (k0 + 1 : Nat)), .val (iV (k0 + 1 : Nat))] [] [.inl 1, .inr 2, .inr 4, .inr 5] S6 ?_ ?_
  ·apply jj2
   ·exact b_add_int wA (oS 3 8) (opnd_const _)
   ·exact mO 0 18
  intro B7 a7 _ (S7 : Sta w 19 [] [(8, iV (k0 + 1 : Nat)), (7, iV (n : Nat)), (0, Mv n A k), (1, (Fn1 (A.map (fun zs => Vv zs.length zs k)) (A.map (fun _ => IS (.bool false)))))] _ _ _)
  refine thenN ?_
  exact ⟨k0 + 1, ⟨by omega, B7, S7.sub [] [1, 0, 2, 3]⟩, by omega⟩
 ·skip
  refine wq [kF] [] [.inl 0, .inr 0, .inr 1, .inr 2, .inr 3] S3 ?_ ?_
  ·apply jj1
   ·exact b_lss_int_f wA (oS 1 8) (oS 0 7)
  intro B4 a4 W4 (S4 : Sta w 19 [] [(9, bF), (7, iV (n : Nat)), (8, iV (k0 : Nat)), (0, Mv n A k), (1, (Fn1 (A.map (fun zs => Vv zs.length zs k)) (A.map (fun _ => IS (.bool false)))))] _ _ _)
  refine wp_seq (wp_cond_false (S4.bool 0 9 rfl) (wp_exit (thenX (thenX (inBlkE (thenN ?_))))))
  refine wq [.val (iV (-1))] [] [.inl 0, .inr 1, .inr 2, .inr 3, .inr 4] S4 ?_ ?_
  ·apply jj1
   ·exact mC
  intro B5 a5 W5 (S5 : Sta w 19 [] [(4, iV (-1)), (7, iV (n : Nat)), (8, iV (k0 : Nat)), (0, Mv n A k), (1, (Fn1 (A.map (fun zs => Vv zs.length zs k)) (A.map (fun _ => IS (.bool false)))))] _ _ _)
  refine wp_ret ?_
  exact end_one S5 rfl (res_tmp S5 0 4 rfl)

set_option maxHeartbeats 400000 in
theorem has_n (w : World) (u f : Value) (n k : Nat) (A : List (List Int)) (h : Hs w (Mv n A k) u) (hn : n ≤ 1048576) (lA : A.length = n) (hf : Hs w (Fn1 (A.map (fun zs => Vv zs.length zs k)) (A.map (fun _ => IS (.bool false)))) f) :
  Calls Tryz.prog 53 #[u, f] w (Gives (IS (.bool false)) w) := by
 refine calls_sta (sl := [(0, (Mv n A k)), (1, (Fn1 (A.map (fun zs => Vv zs.length zs k)) (A.map (fun _ => IS (.bool false)))))]) Tryz.func53 rfl Tryz.ntmps53 (by simp) (args_cons rfl (h) (args_cons rfl (hf) args_nil)) ?_
 intro a0 S0
 refine wq [kF] [] [.inr 0, .inr 1] S0 ?_ ?_
 ·apply jj1
  ·exact mC
 intro _ a1 _ (S1 : Sta w 9 [] [(0, Mv n A k), (1, (Fn1 (A.map (fun zs => Vv zs.length zs k)) (A.map (fun _ => IS (.bool false)))))] _ _ _)
 refine wq [.val (Mv n A k), .val (Fn1 (A.map (fun zs => Vv zs.length zs k)) (A.map (fun _ => IS (.bool false)))), .val (iV (-1)), kF, kF] [] [.inl 4] S1 ?_ ?_
 ·apply jj5
  ·exact mS 0 0
  ·exact mS 1 1
  ·exact ch2 wA (qO 0 5 rfl) (qO 1 6 rfl) (fresh_is _) (fun w u f h hf => idxr_n w u f n k A h hn lA hf)
  ·exact b_geq_int_f wA (oO 2 7) (opnd_const _) (h := by decide)
  ·exact mO 3 8
 intro _ a2 _ (S2 : Sta w 9 [] [(4, bF)] _ _ _)
 refine wp_ret ?_
 exact end_one S2 rfl (res_tmp S2 0 4 rfl)

set_option maxHeartbeats 400000 in
theorem framed_ok (w : World) (u : Value) (n k x : Nat) (A : List (List Int)) (h : Hs w (Mv n A k) u) (h0 : 0 < n) (hn : n ≤ 12) (lA : A.length = n) (hw : nar A) (hR : Reg A x) :
  Calls Tryz.prog 31 #[u] w (Gives (IS (.int .i64 0)) w) := by
 refine calls_sta (sl := [(0, (Mv n A k))]) Tryz.func31 rfl Tryz.ntmps31 (by simp) (args_cons rfl (h) args_nil) ?_
 intro a0 S0
 refine wq [.val (iV 0)] [] [.inr 0] S0 ?_ ?_
 ·apply jj1
  ·exact mC
 intro _ a1 _ (S1 : Sta w 27 [] [(0, Mv n A k)] _ _ _)
 refine wq [.val (Is (.func (.func 52) #[] #[]))] [] [.inl 0, .inr 0] S1 ?_ ?_
 ·apply jj1
  ·exact owe_move rfl wA (Or.inr rfl) (opnd_func _) rfl
 intro _ a2 _ (S2 : Sta w 27 [] [(3, Is (.func (.func 52) #[] #[])), (0, Mv n A k)] _ _ _)
 refine wp_seq (wp_block ?_)
 refine wq [.val (Mv n A k), .val (iV (n : Nat)), kF, kF, .val (Mv n A k), .val (Is (.func (.func 52) #[] #[])), kF, kF, kF] [] [.inl 8, .inr 1] S2 ?_ ?_
 ·repeat' refine And.intro ?_ ?_
  ·trivial
  ·exact mS 1 0
  ·exact owe_len rfl wA rfl (oO 0 8) ar_len Tryz.underlying22 rfl
  ·exact b_gtr_int_f wA (oO 1 9) (opnd_const _)
  ·exact mO 2 10
  ·exact mW (wI 3 11) (oS 1 0)
  ·exact mW (wI 3 11) (oS 0 3)
  ·exact owe_callh2 rfl (wI 3 11) rfl (oO 4 12) ((oO 5 13).imp (is_fn1 (fun args w => by go_simp) (fun i φ ψ h1 h2 w u hu => by obtain ⟨a, ha, rfl⟩ := map_get h1; obtain ⟨b, hb, rfl⟩ := map_get h2; exact wide_n w u a.length k a hu (hw i a ha)))) (fresh_is _) rfl (fun args w => by go_simp) (fun w u f h hf => has_n w u f n k A h (by omega) lA hf)
  ·exact pF wA (oO 3 11) (oO 6 14)
  ·exact mO 7 15
 intro _ a3 _ (S3 : Sta w 27 [] [(7, bF), (0, Mv n A k)] _ _ _)
 refine wp_cond_false (S3.bool 0 7 rfl) ?_
 refine wq [.val (Mv n A k), .val (iV (n : Nat)), kF, kF] [] [.inl 3, .inr 1] S3 ?_ ?_
 ·apply jj4
  ·exact mS 1 0
  ·exact owe_len rfl wA rfl (oO 0 17) ar_len Tryz.underlying22 rfl
  ·exact b_eql_int_f wA (oO 1 18) (opnd_const _)
  ·exact mO 2 19
 intro _ a4 _ (S4 : Sta w 27 [] [(16, bF), (0, Mv n A k)] _ _ _)
 refine wp_cond_false (S4.bool 0 16 rfl) (wp_skip (inBlkN (thenN ?_)))
 refine wq [.val (Mv n A k), .val ((THREE (IS (.int .i64 (n : Nat))) (IS (.int .i64 (x : Nat))) (IS (.int .i64 0))) w.heap.size), .val ((THREE (IS (.int .i64 (n : Nat))) (IS (.int .i64 (x : Nat))) (IS (.int .i64 0))) w.heap.size), .val (iV (n : Nat)), .val (iV (x : Nat)), .val (iV 0), .val (iV (n : Nat)), .val (iV (x : Nat)), .val (iV 0)] [] [.inl 8] S4 ?_ ?_
 ·repeat' refine And.intro ?_ ?_
  ·trivial
  ·exact mS 1 0
  ·exact ch1 wA (qO 0 21 rfl) (fresh_three (fresh_is _) (fresh_is _) (fresh_is _)) (fun w u h => h_shape_y w u n k x A h (by omega) hR (fun e => by omega))
  ·exact mO 1 22
  ·exact e30 wA (oO 2 20)
  ·exact e31 wA (oO 2 20)
  ·exact e32 wA (oO 2 20)
  ·exact mO 3 23
  ·exact mO 4 24
  ·exact mO 5 25
 intro _ a5 _ (S5 : Sta w 27 [] [(6, iV 0)] _ _ _)
 refine wq [.val (iV 0), .val (iV 0)] [] [.inl 1] S5 ?_ ?_
 ·apply jj2
  ·exact mS 0 6
  ·exact mO 0 26
 intro _ a6 _ (S6 : Sta w 27 [] [(2, iV 0)] _ _ _)
 refine wp_ret ?_
 exact end_one S6 rfl (res_tmp S6 0 2 rfl)

end Go.Proofs.YtbgelajoomneiaaGreat

/-
 gso.Wide.
-/
namespace Go.Proofs.YtbgelajoomneiaaGreat
open Go Go.RowKit Nt
set_option linter.unusedSimpArgs false
set_option linter.unusedVariables false
set_option maxRecDepth 20000


/-! The data of the first rows. -/
def gwS (Bm : List (List Int)) : Nat → List Int × List (List Int)
 | 0 => ([1], [])
 | i + 1 => ((gwS Bm i).1 ++ [tk (gwS Bm i).1 (lfL (gwS Bm i).1 (gwS Bm i).2 Bm (Bm.getD i []) i) (lfL (gwS Bm i).1 (gwS Bm i).2 Bm (Bm.getD i []) i) (dotR (Bm.getD i []) (Bm.getD i [])) i], (gwS Bm i).2 ++ [lfL (gwS Bm i).1 (gwS Bm i).2 Bm (Bm.getD i []) i])
abbrev gwD (Bm : List (List Int)) (i : Nat) : List Int := (gwS Bm i).1
abbrev gwL (Bm : List (List Int)) (i : Nat) : List (List Int) := (gwS Bm i).2
abbrev gwN (Bm : List (List Int)) (i : Nat) : List Int := lfL (gwD Bm i) (gwL Bm i) Bm (Bm.getD i []) i
abbrev gwd (Bm : List (List Int)) (i : Nat) : Int := tk (gwD Bm i) (gwN Bm i) (gwN Bm i) (dotR (Bm.getD i []) (Bm.getD i [])) i
theorem gwD_succ (Bm : List (List Int)) (i : Nat) : gwD Bm (i + 1) = gwD Bm i ++ [gwd Bm i] := rfl
theorem gwL_succ (Bm : List (List Int)) (i : Nat) : gwL Bm (i + 1) = gwL Bm i ++ [gwN Bm i] := rfl
theorem gw_len (Bm : List (List Int)) : ∀ i, (gwD Bm i).length = i + 1 ∧ (gwL Bm i).length = i
 | 0 => ⟨rfl, rfl⟩
 | i + 1 => by
  obtain ⟨h1, h2⟩ := gw_len Bm i
  rw [gwD_succ, gwL_succ]
  simp [h1, h2]
theorem gwL_row (Bm : List (List Int)) : ∀ i j, j < i → ((gwL Bm i).getD j []).length = j
 | i + 1, j, h => by
  have hl := (gw_len Bm i).2
  rw [gwL_succ, List.getD_eq_getElem?_getD]
  rcases Nat.lt_or_ge j i with h1 | h1
  ·rw [List.getElem?_append_left (by omega), ← List.getD_eq_getElem?_getD]
   exact gwL_row Bm i j h1
  ·have e : j = i := by omega
   subst e
   rw [List.getElem?_append_right (by omega), hl, Nat.sub_self]
   exact lfL_len _ _ _ _ _
/-- All divisions come out even, no number is too long. -/
def WdOk (Bm : List (List Int)) (n K : Nat) : Prop := ∀ i, i < n → LfOk (gwD Bm i) (gwL Bm i) Bm (Bm.getD i []) i K
theorem one_dl : (digs (1 : Int).natAbs).length ≤ 1 := digs_length_le (by decide)
theorem gwD_dl {Bm : List (List Int)} {n K : Nat} (hK : 1 ≤ K) (ok : WdOk Bm n K) : ∀ i, i ≤ n → Dl (gwD Bm i) K
 | 0, _ => fun j z h => by
  match j, h with
  | 0, h => have h : ([1] : List Int)[0]? = some z := h; simp at h; rw [← h]; exact Nat.le_trans one_dl hK
  | j + 1, h => have h : ([1] : List Int)[j + 1]? = some z := h; simp at h
 | i + 1, hi => fun j z h => by
  have hl := (gw_len Bm i).1
  rw [gwD_succ] at h
  rcases Nat.lt_or_ge j (i + 1) with h1 | h1
  ·rw [List.getElem?_append_left (by omega)] at h
   exact gwD_dl hK ok i (by omega) j z h
  ·rw [List.getElem?_append_right (by omega)] at h
   cases hj : j - (gwD Bm i).length with
   | zero => rw [hj] at h; simp at h; rw [← h]; exact (ok i (by omega)).last.dl i (Nat.le_refl _)
   | succ t => rw [hj] at h; simp at h
theorem gwL_dl {Bm : List (List Int)} {n K : Nat} (ok : WdOk Bm n K) : ∀ i, i ≤ n → Mdl (gwL Bm i) K
 | 0, _ => fun j z h => by have h : ([] : List (List Int))[j]? = some z := h; simp at h
 | i + 1, hi => fun j z h => by
  have hl := (gw_len Bm i).2
  rw [gwL_succ] at h
  rcases Nat.lt_or_ge j i with h1 | h1
  ·rw [List.getElem?_append_left (by omega)] at h
   exact gwL_dl ok i (by omega) j z h
  ·rw [List.getElem?_append_right (by omega)] at h
   cases hj : j - (gwL Bm i).length with
   | zero => rw [hj] at h; simp at h; rw [← h]; exact lf_dl (ok i (by omega)) i (Nat.le_refl _)
   | succ t => rw [hj] at h; simp at h
/-- The data in new memory. -/
def GN (n : Nat) (D : List Int) (L : List (List Int)) : Nat → Pr := fun lo => SF [VN (n + 1) D lo, MN n L lo]
theorem sf_imp {a b c d : Pr} (h1 : ∀ v w, a v w → c v w) (h2 : ∀ v w, b v w → d v w) : ∀ v w, SF [a, b] v w → SF [c, d] v w := by
 rintro v w ⟨cs, e, hs, ho, hp⟩
 refine ⟨cs, e, hs, ho, fun f p hf => ?_⟩
 match f, hf with
 | 0, hf => simp at hf; subst hf; obtain ⟨u, hu, ha⟩ := hp 0 a rfl; exact ⟨u, hu, h1 u w ha⟩
 | 1, hf => simp at hf; subst hf; obtain ⟨u, hu, ha⟩ := hp 1 b rfl; exact ⟨u, hu, h2 u w ha⟩
theorem sf_two {a b : Value} {c d : Pr} {w : World} {v : Value} (h : SF [Is a, Is b] v w) (h1 : c a w) (h2 : d b w) : SF [c, d] v w := by
 obtain ⟨cs, e, hs, ho, hp⟩ := h
 refine ⟨cs, e, hs, ho, fun f p hf => ?_⟩
 match f, hf with
 | 0, hf => simp at hf; subst hf; obtain ⟨u, hu, ha⟩ := hp 0 _ rfl; obtain rfl : u = a := ha; exact ⟨u, hu, h1⟩
 | 1, hf => simp at hf; subst hf; obtain ⟨u, hu, ha⟩ := hp 1 _ rfl; obtain rfl : u = b := ha; exact ⟨u, hu, h2⟩
theorem fresh_gn {n : Nat} {D : List Int} {L : List (List Int)} : Fresh (GN n D L) :=
 ⟨fun lo lo' v w hl h => sf_imp (fun v w h => fresh_vn.mono _ _ v w hl h) (fun v w h => fresh_mn.mono _ _ v w hl h) v w h, fun lo v w w' B hB h ev => by
  obtain ⟨cs, e, hs, ho, hp⟩ := h
  refine ⟨cs, e, hs, ho, fun f p hf => ?_⟩
  match f, hf with
  | 0, hf => simp at hf; subst hf; obtain ⟨u, hu, ha⟩ := hp 0 _ rfl; exact ⟨u, hu, fresh_vn.ev _ u w w' B hB ha ev⟩
  | 1, hf => simp at hf; subst hf; obtain ⟨u, hu, ha⟩ := hp 1 _ rfl; exact ⟨u, hu, fresh_mn.ev _ u w w' B hB ha ev⟩⟩
abbrev chD (lo : Nat) (D : List Int) : List Value → World → Prop := CE 2 ((D.map ZN).map (· lo))
abbrev chL (lo : Nat) (L : List (List Int)) : List Value → World → Prop := CE 1 ((L.map (fun zs => VN zs.length zs)).map (· lo))
/-- What the loop goes by. -/
structure GS where
 k : Nat
 pd : Option Addr
 cd : Nat
 xd : List Value
 pl : Option Addr
 cl : Nat
 xl : List Value
section
variable {ops : Array Oper} {l : List Kd} {bx : Bxs} {sl : List (Tmp × Pr)} {i : Nat} {o : Oper} {Q : Exit → Act → World → Prop} {a0 : Act} {n : Nat} {w0 : World}
theorem owe_left {x0 x1 x2 : Operand} {ts : Array TypeId} {k1 k2 G1 G2 n0 nb x K : Nat} {pd pl : Option Addr} {cd cl : Nat} {xd xl : List Value} {D R : List Int} {L Bm : List (List Int)} (ho : ops[i]? = some o) (hw : Wants ops l bx sl i o) (hop : o.op = .call { callee := .value (.func 32), args := #[x0, x1, x2], argTypes := ts })
    (h0 : Opnd ops l bx sl i x0 (SF [Is (.slice pd (n0 + 1) cd), Is (.slice pl n0 cl)])) (h1 : Opnd ops l bx sl i x1 (Mv nb Bm K)) (h2 : Opnd ops l bx sl i x2 (Vv x R K))
    (hb1 : bx[k1]? = some (G1, RV w0.heap.size (.slice pd (n0 + 1) cd) 32 2 (n0 + 1) xd (chD w0.heap.size D))) (hu1 : unturned ops l i (.inl G1) = true) (hb2 : bx[k2]? = some (G2, RV w0.heap.size (.slice pl n0 cl) 23 1 n0 xl (chL w0.heap.size L))) (hu2 : unturned ops l i (.inl G2) = true)
    (hD : Dl D K) (hL : Mdl L K) (hnb : n0 ≤ nb) (hn : n0 ≤ 1048000) (hx : x ≤ 1048576) (hK : K ≤ 500000000) (lL : L.length = n0) (lB : Bm.length = nb) (hLl : ∀ j, j < n0 → (L.getD j []).length = j) (hBl : ∀ j, j < n0 → (Bm.getD j []).length = x) (ok : LfOk D L Bm R n0 K)
    (hk : kdAt l i = .val (TWO (VN n0 (lfL D L Bm R n0)) (ZN (tk D (lfL D L Bm R n0) (lfL D L Bm R n0) (dotR R R) n0)) w0.heap.size)) : Owed Tryz.prog ops Q l bx sl a0 n w0 i :=
  owe_callW ho hw hop hk (fun args w => by go_simp) fun vs B a w c => by
    rw [show (#[x0, x1, x2] : Array Operand).map a.eval = #[a.eval x0, a.eval x1, a.eval x2] from by simp]
    have q1 : Hs w (Vv (n0 + 1) D K) (.slice pd (n0 + 1) cd) := rv_hs (c.box G1 _ (List.mem_of_getElem? hb1) hu1) (fun v w ys ho hc => vn_vv hD v w (row_lf (by decide) v w ys ho hc))
    have q2 : Hs w (Mv n0 L K) (.slice pl n0 cl) := rv_hs (c.box G2 _ (List.mem_of_getElem? hb2) hu2) (fun v w ys ho hc => mn_mv hL v w (row_lf (by decide) v w ys ho hc))
    have q0 : Hs w (SF [Vv (n0 + 1) D K, Mv n0 L K]) (a.eval x0) := fun w' ev => sf_two ((h0 a0 n w0 vs B a w c).hs w' ev) (q1 w' ev) (q2 w' ev)
    exact (left_w w _ _ _ n0 nb x K D L Bm R q0 (h1 a0 n w0 vs B a w c).hs (h2 a0 n w0 vs B a w c).hs hnb hn hx hK lL lB hLl hBl ok).mono (fun e w' h => gives_has (fresh_two fresh_vn (fresh_zn _)) c h)
end
theorem res_gso {w0 W : World} {n : Nat} {bx : Bxs} {sl : List (Tmp × Pr)} {B : Nat → Prop} {a : Act} (S : Sta w0 n bx sl B a W) (k t k1 k2 : Nat) {G1 G2 m : Nat} {pd pl : Option Addr} {cd cl : Nat} {xd xl : List Value} {D : List Int} {L : List (List Int)} (h : bx[k]? = some (t, .box 26 (SF [Is (.slice pd (m + 1) cd), Is (.slice pl m cl)])))
  (hb1 : bx[k1]? = some (G1, RV w0.heap.size (.slice pd (m + 1) cd) 32 2 (m + 1) xd (chD w0.heap.size D))) (hb2 : bx[k2]? = some (G2, RV w0.heap.size (.slice pl m cl) 23 1 m xl (chL w0.heap.size L))) : ∃ v, (resOf (.cell t 26) a.tmps).run Tryz.prog W = .ok v W ∧ GN m D L w0.heap.size v W := by
 obtain ⟨v, h1, h2⟩ := res_cell S k t h strct_gso shp_sf2
 obtain ⟨o1, _, x1⟩ := rv_own (S.box _ (List.mem_of_getElem? hb1))
 obtain ⟨o2, _, x2⟩ := rv_own (S.box _ (List.mem_of_getElem? hb2))
 exact ⟨v, h1, sf_two h2 (row_lf (by decide) _ W _ o1 (x1 W (Ev.refl _ _))) (row_lf (by decide) _ W _ o2 (x2 W (Ev.refl _ _)))⟩

abbrev q6avw0  : Rk := .box 26 (Is (.agg #[.slice none 0 0, .slice none 0 0]))
abbrev q6avw1 (w : World) (Bm : List (List Int)) (g : GS) : Rk := RV w.heap.size (.slice (g.pl) (g.k) (g.cl)) 23 1 (g.k) (g.xl) (CE 1 (((gwL Bm g.k).map (fun zs => VN zs.length zs)).map (· w.heap.size)))
abbrev q6avw2 (g : GS) : Rk := .box 26 (SF [(Is (.slice g.pd (g.k + 1) g.cd)), (Is (.slice g.pl g.k g.cl))])
abbrev q6avw3 (w : World) (Bm : List (List Int)) (g : GS) : Rk := RV w.heap.size (.slice (g.pd) (g.k + 1) (g.cd)) 32 2 (g.k + 1) (g.xd) (CE 2 (((gwD Bm g.k).map ZN).map (· w.heap.size)))
abbrev q6avw4 (w : World) (Bm : List (List Int)) (g : GS) : Pr := (VN (g.k) (gwN Bm g.k)) w.heap.size
set_option maxHeartbeats 4000000 in
theorem wide_all (w : World) (u : Value) (n x K : Nat) (Bm : List (List Int)) (h : Hs w (Mv n Bm K) u) (hn0 : 0 < n) (hn : n ≤ 12) (hx : x ≤ 12) (hK0 : 1 ≤ K) (hK : K ≤ 500000000) (lB : Bm.length = n) (hw : nar Bm) (hR : Reg Bm x) (mm N : Nat) (ok : WdOk Bm N K) (hd : ∀ i, i < mm → gwd Bm i ≠ 0) (psi : Nat → Pr) (hb : (mm = n ∧ N = n ∧ psi = (TWO (GN n (gwD Bm n) (gwL Bm n)) (IS (.int .i64 0)))) ∨ (mm < n ∧ N = mm + 1 ∧ gwd Bm mm = 0 ∧ psi = (TWO (IS (.agg #[.slice none 0 0, .slice none 0 0])) (IS (.int .i64 50))))) :
  Calls Tryz.prog 14 #[u] w (Gives psi w) := by
 have hmn : mm ≤ n := by
  rcases hb with ⟨h8, _⟩ | ⟨h8, _⟩ <;> omega
 refine calls_sta (sl := [(0, (Mv n Bm K))]) Tryz.func14 rfl Tryz.ntmps14 (by simp) (args_cons rfl (h) args_nil) ?_
 intro a0 S0
 refine wq [.new (q6avw0), .val (iV 0)] [.inl 0] [.inr 0] S0 ?_ ?_
 ·apply jj2
  ·exact owe_new rfl wA rfl rfl (fun ρ w => alloc_gso ρ _ w)
  ·exact mC
 intro _ a1 _ (S1 : Sta w 50 [(2, (q6avw0))] [(0, Mv n Bm K)] _ _ _)
 refine wp_seq ?_
 refine wq [.val (Mv n Bm K), .val (iV 0), .val (iV 0)] [.inr 0] [.inl 2, .inr 0] S1 ?_ ?_
 ·apply jj3
  ·exact mS 0 0
  ·exact ch1 wA (qO 0 10 rfl) (fresh_is _) (fun w u h => framed_ok w u n K x Bm h hn0 hn lB hw hR)
  ·exact mO 1 11
 intro _ a2 _ (S2 : Sta w 50 [(2, (q6avw0))] [(4, iV 0), (0, Mv n Bm K)] _ _ _)
 refine wq [.val (iV 0), kF] [.inr 0] [.inl 1, .inr 0, .inr 1] S2 ?_ ?_
 ·apply jj2
  ·exact mS 0 4
  ·exact b_neq_errno_f wA (oO 0 12) (opnd_const _) (h := rfl)
 intro _ a3 _ (S3 : Sta w 50 [(2, (q6avw0))] [(13, bF), (4, iV 0), (0, Mv n Bm K)] _ _ _)
 refine wp_cond_false (S3.bool 0 13 rfl) (wp_skip (thenN (wp_seq ?_)))
 refine wp_cut 2 (by kernel_rfl) ?_
 refine wps_stmt [.val ((ZN (1)) w.heap.size), .new (.row 32 2 1 (CE 2 (((gwD Bm 0).map ZN).map (· w.heap.size))))] [.inr 0, .inl 1] [.inr 2] S3 rfl (by kernel_rfl) ?_ ?_
 ·apply jj2
  ·exact cc1 wA (opnd_const _) (fresh_zn _) (g_zof (1) (by omega) (by omega))
  ·exact owe_newb1 rfl wA rfl bld_int (oO 0 16) (cel_shp (by decide) shp_zn) rfl
 intro B4 a4 W4 (S4 : Sta w 50 [(2, (q6avw0)), (17, (.row 32 2 1 (CE 2 (((gwD Bm 0).map ZN).map (· w.heap.size)))))] [(0, Mv n Bm K)] _ _ _)
 refine thenN ?_
 obtain ⟨pd, cd, xd, S5⟩ := S4.tell (bx' := [(2, (q6avw0))]) 1 1000002 rfl (by simp) (by simp)
 replace S5 : Sta w 50 [(1000002, (RV w.heap.size (.slice pd 1 cd) 32 2 1 xd (CE 2 (((gwD Bm 0).map ZN).map (· w.heap.size))))), (2, (q6avw0))] [(17, Is (.slice pd 1 cd)), (0, Mv n Bm K)] B4 a4 W4 := S5
 obtain ⟨_, a5, _, e0, e1, e2⟩ : ∃ B a W, B4 = B ∧ a4 = a ∧ W4 = W := ⟨_, _, _, rfl, rfl, rfl⟩
 rw [e0, e1, e2] at S5
 rw [e1, e2]
 clear e0 e1 e2
 refine wps_stmt [.val (SF [(Is (.slice pd 1 cd)), (Is (.slice none 0 0))]), .new (q6avw0), .put (.inr 1) (.box 26 (SF [(Is (.slice pd 1 cd)), (Is (.slice none 0 0))]))] [.inr 0, .inr 1, .inl 1] [.inr 1] S5 rfl (by kernel_rfl) ?_ ?_
 ·apply jj3
  ·exact owe_buildG rfl wA rfl (oS 0 17) rfl
  ·exact owe_new rfl wA rfl rfl (fun ρ w => alloc_gso ρ _ w)
  ·exact owe_put 1 rfl wA rfl (by kernel_rfl) rfl (oO 0 18) (stores_of strct_gso shp_g0 shp_sf2) rfl
 intro B6 a6 W6 (S6 : Sta w 50 [(1000002, (RV w.heap.size (.slice pd 1 cd) 32 2 1 xd (CE 2 (((gwD Bm 0).map ZN).map (· w.heap.size))))), (2, (q6avw0)), (5, (.box 26 (SF [(Is (.slice pd 1 cd)), (Is (.slice none 0 0))])))] [(0, Mv n Bm K)] _ _ _)
 refine thenN ?_
 obtain ⟨gb, S7⟩ := S6.tellBox 2 rfl
 replace S7 : Sta w 50 [(1000002, (RV w.heap.size (.slice pd 1 cd) 32 2 1 xd (CE 2 (((gwD Bm 0).map ZN).map (· w.heap.size))))), (2, (q6avw0)), (5, (.box 26 (SF [(Is (.slice pd 1 cd)), (Is (.slice none 0 0))])))] [(5, Is (.pointer (some ⟨gb, 0, none⟩))), (0, Mv n Bm K)] B6 a6 W6 := S7
 obtain ⟨B7, a7, W7, e0, e1, e2⟩ : ∃ B a W, B6 = B ∧ a6 = a ∧ W6 = W := ⟨_, _, _, rfl, rfl, rfl⟩
 rw [e0, e1, e2] at S7
 rw [e1, e2]
 clear e0 e1 e2
 have S8 := S7.tellNil 1000003 23 1 (χ := CE 1 (((gwL Bm 0).map (fun zs => VN zs.length zs)).map (· w.heap.size))) ce_nil
 replace S8 : Sta w 50 [(1000003, (RV w.heap.size (.slice none 0 0) 23 1 0 ([]) (CE 1 (((gwL Bm 0).map (fun zs => VN zs.length zs)).map (· w.heap.size))))), (1000002, (RV w.heap.size (.slice pd 1 cd) 32 2 1 xd (CE 2 (((gwD Bm 0).map ZN).map (· w.heap.size))))), (2, (q6avw0)), (5, (.box 26 (SF [(Is (.slice pd 1 cd)), (Is (.slice none 0 0))])))] [(5, Is (.pointer (some ⟨gb, 0, none⟩))), (0, Mv n Bm K)] B7 a7 W7 := S8
 obtain ⟨_, a8, _, e0, e1, e2⟩ : ∃ B a W, B7 = B ∧ a7 = a ∧ W7 = W := ⟨_, _, _, rfl, rfl, rfl⟩
 rw [e0, e1, e2] at S8
 rw [e1, e2]
 clear e0 e1 e2
 refine wp_seq ?_
 refine wq [.val (Mv n Bm K), .val (iV (n : Nat)), .val (iV 0)] [.inr 0, .inr 1, .inr 2, .inr 3] [.inl 0, .inl 1, .inl 2, .inr 0, .inr 1] S8 ?_ ?_
 ·apply jj3
  ·exact mS 1 0
  ·exact owe_len rfl wA rfl (oO 0 19) ar_len Tryz.underlying22 rfl
  ·exact mC
 intro B9 a9 _ (S9 : Sta w 50 [(1000003, (RV w.heap.size (.slice none 0 0) 23 1 0 ([]) (CE 1 (((gwL Bm 0).map (fun zs => VN zs.length zs)).map (· w.heap.size))))), (1000002, (RV w.heap.size (.slice pd 1 cd) 32 2 1 xd (CE 2 (((gwD Bm 0).map ZN).map (· w.heap.size))))), (2, (q6avw0)), (5, (.box 26 (SF [(Is (.slice pd 1 cd)), (Is (.slice none 0 0))])))] [(19, Mv n Bm K), (20, iV (n : Nat)), (21, iV 0), (5, Is (.pointer (some ⟨gb, 0, none⟩))), (0, Mv n Bm K)] _ _ _)
 refine wp_block ?_
 refine wp_loop_ghost (fun (g : GS) a W => (g.k ≤ mm) ∧ ∃ Bq, Sta w 50 [(1000003, (q6avw1 w Bm g)), (1000002, (q6avw3 w Bm g)), (2, (q6avw0)), (5, (q6avw2 g))] [(19, Mv n Bm K), (20, iV (n : Nat)), (21, iV (g.k : Nat)), (5, Is (.pointer (some ⟨gb, 0, none⟩))), (0, Mv n Bm K)] Bq a W) (fun (g : GS) => n - g.k) ?_ ⟨0, pd, cd, xd, none, 0, []⟩ ⟨Nat.zero_le _, B9, S9.sub [0, 1, 2, 3] [0, 1, 2, 3, 4]⟩
 rintro g a10 _ ⟨hcond, _, S10⟩
 by_cases hlt : g.k < n
 ·have hrx : (Bm.getD g.k []).length = x := by rw [List.getD_eq_getElem?_getD, List.getElem?_eq_getElem (by omega)]; exact hR g.k _ (List.getElem?_eq_getElem (by omega))
  have hBx : ∀ j, j < g.k → (Bm.getD j []).length = x := fun j hj => by rw [List.getD_eq_getElem?_getD, List.getElem?_eq_getElem (by omega)]; exact hR j _ (List.getElem?_eq_getElem (by omega))
  have hgN : g.k < N := by
   rcases hb with ⟨h8, _⟩ | ⟨h8, _⟩ <;> omega
  refine wq [kT] [.inr 0, .inr 1, .inr 2, .inr 3] [.inl 0, .inr 0, .inr 1, .inr 2, .inr 3, .inr 4] S10 ?_ ?_
  ·apply jj1
   ·exact b_lss_int_t wA (oS 2 21) (oS 1 20)
  intro B11 a11 W11 (S11 : Sta w 50 [(1000003, (q6avw1 w Bm g)), (1000002, (q6avw3 w Bm g)), (2, (q6avw0)), (5, (q6avw2 g))] [(22, bT), (19, Mv n Bm K), (20, iV (n : Nat)), (21, iV (g.k : Nat)), (5, Is (.pointer (some ⟨gb, 0, none⟩))), (0, Mv n Bm K)] _ _ _)
  refine wp_seq (wp_cond_true (S11.bool 0 22 rfl) (wp_skip (thenN (wp_seq (wp_block ?_)))))
  refine wq [.val (AtE 1 (Vv x (Bm.getD g.k []) K)), .val (Vv x (Bm.getD g.k []) K), .val (Vv x (Bm.getD g.k []) K)] [.inr 0, .inr 1, .inr 2, .inr 3] [.inl 2, .inr 1, .inr 2, .inr 3, .inr 4, .inr 5] S11 ?_ ?_
  ·apply jj3
   ·exact owe_aindex rfl wA rfl idx_rows (oS 1 19) (oS 3 21) (by have q := vv_at (A := Bm) (K := K) (k := g.k) (by omega); rw [hrx] at q; exact q) rfl
   ·exact owe_aload rfl wA rfl ldr_row1 (by decide) cel_vv (oO 0 23) rfl
   ·exact mO 1 24
  intro B12 a12 W12 (S12 : Sta w 50 [(1000003, (q6avw1 w Bm g)), (1000002, (q6avw3 w Bm g)), (2, (q6avw0)), (5, (q6avw2 g))] [(7, Vv x (Bm.getD g.k []) K), (19, Mv n Bm K), (20, iV (n : Nat)), (21, iV (g.k : Nat)), (5, Is (.pointer (some ⟨gb, 0, none⟩))), (0, Mv n Bm K)] _ _ _)
  refine wq [.val (SF [(Is (.slice g.pd (g.k + 1) g.cd)), (Is (.slice g.pl g.k g.cl))]), .val (Mv n Bm K), .val (Vv x (Bm.getD g.k []) K), .val ((TWO (VN (g.k) (gwN Bm g.k)) (ZN (gwd Bm g.k))) w.heap.size), .val ((TWO (VN (g.k) (gwN Bm g.k)) (ZN (gwd Bm g.k))) w.heap.size), .val (q6avw4 w Bm g), .val ((ZN (gwd Bm g.k)) w.heap.size), .new (.box 32 zI), .val (q6avw4 w Bm g), .put (.inr 7) (.box 32 ((ZN (gwd Bm g.k)) w.heap.size))] [.inr 0, .inr 1, .inr 2, .inr 3, .inl 7] [.inl 8, .inr 1, .inr 2, .inr 3, .inr 4, .inr 5] S12 ?_ ?_
  ·repeat' refine And.intro ?_ ?_
   ·trivial
   ·exact lod 3 wA (loads_of strct_gso shp_sf2)
   ·exact mS 5 0
   ·exact mS 0 7
   ·exact owe_left (G1 := 1000002) (G2 := 1000003) (k1 := 1) (k2 := 0) rfl wA rfl (oO 0 26) (oO 1 27) (oO 2 28) rfl (by kernel_rfl) rfl (by kernel_rfl) (gwD_dl hK0 ok g.k (by omega)) (gwL_dl ok g.k (by omega)) (by omega) (by omega) (by omega) (by omega) (gw_len Bm g.k).2 lB (gwL_row Bm g.k) hBx (ok g.k hgN) rfl
   ·exact mO 3 29
   ·exact e20 wA (oO 4 25)
   ·exact e21 wA (oO 4 25)
   ·exact owe_new rfl wA rfl rfl (fun ρ w => alloc_int ρ _ w)
   ·exact mO 5 30
   ·exact owe_put 7 rfl wA rfl (by kernel_rfl) rfl (oO 6 31) (stores_of strct_int shp_z0 shp_zn) rfl
  intro _ a13 _ (S13 : Sta w 50 [(1000003, (q6avw1 w Bm g)), (1000002, (q6avw3 w Bm g)), (2, (q6avw0)), (5, (q6avw2 g)), (9, (.box 32 ((ZN (gwd Bm g.k)) w.heap.size)))] [(8, (q6avw4 w Bm g)), (19, Mv n Bm K), (20, iV (n : Nat)), (21, iV (g.k : Nat)), (5, Is (.pointer (some ⟨gb, 0, none⟩))), (0, Mv n Bm K)] _ _ _)
  rcases Nat.lt_or_ge g.k mm with hlm | hlm
  ·skip
   have hdz : (gwd Bm g.k).sign ≠ 0 := fun e => hd g.k hlm (Int.sign_eq_zero_iff_zero.1 e)
   refine wp_seq ?_
   refine wq [.val ((ZN (gwd Bm g.k)) w.heap.size), .val (iV ((gwd Bm g.k).sign)), kF] [.inr 0, .inr 1, .inr 2, .inr 3, .inr 4] [.inl 2, .inr 0, .inr 1, .inr 2, .inr 3, .inr 4, .inr 5] S13 ?_ ?_
   ·apply jj3
    ·exact lod 4 wA (loads_of strct_int shp_zn)
    ·exact ch1 wA (qO 0 32 rfl) (fresh_is _) (fun w u h => h_zsign (k := K) (by omega) w u (zn_zv ((ok g.k hgN).last.dl g.k (Nat.le_refl _)) _ _ h.now))
    ·exact b_eql_int_f wA (oO 1 33) (opnd_const _) (h := hdz)
   intro B14 a14 W14 (S14 : Sta w 50 [(1000003, (q6avw1 w Bm g)), (1000002, (q6avw3 w Bm g)), (2, (q6avw0)), (5, (q6avw2 g)), (9, (.box 32 ((ZN (gwd Bm g.k)) w.heap.size)))] [(34, bF), (8, (q6avw4 w Bm g)), (19, Mv n Bm K), (20, iV (n : Nat)), (21, iV (g.k : Nat)), (5, Is (.pointer (some ⟨gb, 0, none⟩))), (0, Mv n Bm K)] _ _ _)
   refine wp_cond_false (S14.bool 0 34 rfl) (wp_skip (thenN (wp_seq ?_)))
   refine wp_cut 5 (by kernel_rfl) ?_
   refine wps_stmt [.val (Is (.pointer (some ⟨gb, 0, none⟩))), .val (Is (.slice g.pd (g.k + 1) g.cd)), .val ((ZN (gwd Bm g.k)) w.heap.size), .val (Sng 32 2 ((ZN (gwd Bm g.k)) w.heap.size) w.heap.size), .mov 1000002 (.row 32 2 (g.k + 1 + 1) (CE 2 (((gwD Bm (g.k + 1)).map ZN).map (· w.heap.size))))] [.inr 0, .inr 2, .inr 3, .inl 4] [.inr 1, .inr 2, .inr 3, .inr 4, .inr 5, .inr 6] S14 rfl (by kernel_rfl) ?_ ?_
   ·apply jj5
    ·exact owe_un (x := .tmp 5) rfl wA rfl (oS 5 5) rfl (fun ρ w h1 => part_gso0 ρ _ _ w _ 0 h1)
    ·exact owe_sload rfl wA rfl (oO 0 36) (k := 3) rfl (j := 5) rfl (by kernel_rfl) rfl load1_vec rfl
    ·exact lod 4 wA (loads_of strct_int shp_zn)
    ·exact owe_b1 rfl wA rfl bld_int (oO 2 38) (cel_shp (by decide) shp_zn) rfl
    ·exact owe_appendV rfl wA rfl (oO 1 37) (k := 1) rfl (by kernel_rfl) ((oO 3 39).imp b1_src) einf_int Tryz.underlying23 (by decide) ⟨by unfold maxLen; omega, by omega⟩ rfl (fun xs ys w h1 h2 => by rw [gwD_succ, List.map_append, List.map_append]; exact ce_append _ _ _ h1 h2)
   intro B15 a15 W15 (S15 : Sta w 50 [(1000003, (q6avw1 w Bm g)), (2, (q6avw0)), (5, (q6avw2 g)), (40, (.row 32 2 (g.k + 1 + 1) (CE 2 (((gwD Bm (g.k + 1)).map ZN).map (· w.heap.size)))))] [(8, (q6avw4 w Bm g)), (19, Mv n Bm K), (20, iV (n : Nat)), (21, iV (g.k : Nat)), (5, Is (.pointer (some ⟨gb, 0, none⟩))), (0, Mv n Bm K)] _ _ _)
   refine thenN ?_
   obtain ⟨pd', cd', xd', S16⟩ := S15.tell (bx' := [(1000003, (q6avw1 w Bm g)), (2, (q6avw0)), (5, (q6avw2 g))]) 3 1000002 rfl (by simp) (by simp)
   replace S16 : Sta w 50 [(1000002, (RV w.heap.size (.slice pd' (g.k + 1 + 1) cd') 32 2 (g.k + 1 + 1) xd' (CE 2 (((gwD Bm (g.k + 1)).map ZN).map (· w.heap.size))))), (1000003, (q6avw1 w Bm g)), (2, (q6avw0)), (5, (q6avw2 g))] [(40, Is (.slice pd' (g.k + 1 + 1) cd')), (8, (q6avw4 w Bm g)), (19, Mv n Bm K), (20, iV (n : Nat)), (21, iV (g.k : Nat)), (5, Is (.pointer (some ⟨gb, 0, none⟩))), (0, Mv n Bm K)] B15 a15 W15 := S16
   obtain ⟨_, a16, _, e0, e1, e2⟩ : ∃ B a W, B15 = B ∧ a15 = a ∧ W15 = W := ⟨_, _, _, rfl, rfl, rfl⟩
   rw [e0, e1, e2] at S16
   rw [e1, e2]
   clear e0 e1 e2
   refine wps_stmt [.val (Is (.pointer (some ⟨gb, 0, none⟩))), .put (.inl 5) (.box 26 (SF [(Is (.slice pd' (g.k + 1 + 1) cd')), (Is (.slice g.pl g.k g.cl))]))] [.inr 0, .inr 1, .inr 2, .inr 3] [.inr 1, .inr 2, .inr 3, .inr 4, .inr 5, .inr 6] S16 rfl (by kernel_rfl) ?_ ?_
   ·apply jj2
    ·exact owe_un (x := .tmp 5) rfl wA rfl (oS 5 5) rfl (fun ρ w h1 => part_gso0 ρ _ _ w _ 0 h1)
    ·exact owe_sput rfl wA rfl (oO 0 41) (k := 3) rfl (j := 5) rfl (by kernel_rfl) (oS 0 40) flat_isl (Nat.le_of_ble_eq_true rfl) store1_vec rfl
   intro _ a17 _ (S17 : Sta w 50 [(1000002, (RV w.heap.size (.slice pd' (g.k + 1 + 1) cd') 32 2 (g.k + 1 + 1) xd' (CE 2 (((gwD Bm (g.k + 1)).map ZN).map (· w.heap.size))))), (1000003, (q6avw1 w Bm g)), (2, (q6avw0)), (5, (.box 26 (SF [(Is (.slice pd' (g.k + 1 + 1) cd')), (Is (.slice g.pl g.k g.cl))])))] [(8, (q6avw4 w Bm g)), (19, Mv n Bm K), (20, iV (n : Nat)), (21, iV (g.k : Nat)), (5, Is (.pointer (some ⟨gb, 0, none⟩))), (0, Mv n Bm K)] _ _ _)
   refine thenN ?_
   refine wp_cut 5 (by kernel_rfl) ?_
   refine wps_stmt [.val (Is (.pointer (some ⟨gb, 1, none⟩))), .val (Is (.slice g.pl g.k g.cl)), .val (q6avw4 w Bm g), .val (Sng 23 1 (q6avw4 w Bm g) w.heap.size), .mov 1000003 (.row 23 1 (g.k + 1) (CE 1 (((gwL Bm (g.k + 1)).map (fun zs => VN zs.length zs)).map (· w.heap.size))))] [.inr 0, .inr 2, .inr 3, .inl 4] [.inr 1, .inr 2, .inr 3, .inr 4, .inr 5] S17 rfl (by kernel_rfl) ?_ ?_
   ·apply jj5
    ·exact owe_un (x := .tmp 5) rfl wA rfl (oS 4 5) rfl (fun ρ w h1 => part_gso1 ρ _ _ w _ 0 h1)
    ·exact owe_sload rfl wA rfl (oO 0 42) (k := 3) rfl (j := 4) rfl (by kernel_rfl) rfl load1_mat rfl
    ·exact mS 0 8
    ·exact owe_b1 rfl wA rfl bld_row1 (oO 2 44) cel_vn rfl
    ·exact owe_appendV rfl wA rfl (oO 1 43) (k := 1) rfl (by kernel_rfl) ((oO 3 45).imp b1_src) einf_row1 Tryz.underlying22 (by decide) ⟨by unfold maxLen; omega, by omega⟩ rfl (fun xs ys w h1 h2 => by rw [gwL_succ, List.map_append, List.map_append]; exact ce_append _ _ _ h1 (by rw [List.map_cons, List.map_cons, lfL_len]; exact h2))
   intro B18 a18 W18 (S18 : Sta w 50 [(1000002, (RV w.heap.size (.slice pd' (g.k + 1 + 1) cd') 32 2 (g.k + 1 + 1) xd' (CE 2 (((gwD Bm (g.k + 1)).map ZN).map (· w.heap.size))))), (2, (q6avw0)), (5, (.box 26 (SF [(Is (.slice pd' (g.k + 1 + 1) cd')), (Is (.slice g.pl g.k g.cl))]))), (46, (.row 23 1 (g.k + 1) (CE 1 (((gwL Bm (g.k + 1)).map (fun zs => VN zs.length zs)).map (· w.heap.size)))))] [(19, Mv n Bm K), (20, iV (n : Nat)), (21, iV (g.k : Nat)), (5, Is (.pointer (some ⟨gb, 0, none⟩))), (0, Mv n Bm K)] _ _ _)
   refine thenN ?_
   obtain ⟨pl', cl', xl', S19⟩ := S18.tell (bx' := [(1000002, (RV w.heap.size (.slice pd' (g.k + 1 + 1) cd') 32 2 (g.k + 1 + 1) xd' (CE 2 (((gwD Bm (g.k + 1)).map ZN).map (· w.heap.size))))), (2, (q6avw0)), (5, (.box 26 (SF [(Is (.slice pd' (g.k + 1 + 1) cd')), (Is (.slice g.pl g.k g.cl))])))]) 3 1000003 rfl (by simp) (by simp)
   replace S19 : Sta w 50 [(1000003, (RV w.heap.size (.slice pl' (g.k + 1) cl') 23 1 (g.k + 1) xl' (CE 1 (((gwL Bm (g.k + 1)).map (fun zs => VN zs.length zs)).map (· w.heap.size))))), (1000002, (RV w.heap.size (.slice pd' (g.k + 1 + 1) cd') 32 2 (g.k + 1 + 1) xd' (CE 2 (((gwD Bm (g.k + 1)).map ZN).map (· w.heap.size))))), (2, (q6avw0)), (5, (.box 26 (SF [(Is (.slice pd' (g.k + 1 + 1) cd')), (Is (.slice g.pl g.k g.cl))])))] [(46, Is (.slice pl' (g.k + 1) cl')), (19, Mv n Bm K), (20, iV (n : Nat)), (21, iV (g.k : Nat)), (5, Is (.pointer (some ⟨gb, 0, none⟩))), (0, Mv n Bm K)] B18 a18 W18 := S19
   obtain ⟨_, a19, _, e0, e1, e2⟩ : ∃ B a W, B18 = B ∧ a18 = a ∧ W18 = W := ⟨_, _, _, rfl, rfl, rfl⟩
   rw [e0, e1, e2] at S19
   rw [e1, e2]
   clear e0 e1 e2
   refine wps_stmt [.val (Is (.pointer (some ⟨gb, 1, none⟩))), .put (.inl 5) (.box 26 (SF [(Is (.slice pd' (g.k + 1 + 1) cd')), (Is (.slice pl' (g.k + 1) cl'))]))] [.inr 0, .inr 1, .inr 2, .inr 3] [.inr 1, .inr 2, .inr 3, .inr 4, .inr 5] S19 rfl (by kernel_rfl) ?_ ?_
   ·apply jj2
    ·exact owe_un (x := .tmp 5) rfl wA rfl (oS 4 5) rfl (fun ρ w h1 => part_gso1 ρ _ _ w _ 0 h1)
    ·exact owe_sput rfl wA rfl (oO 0 47) (k := 3) rfl (j := 4) rfl (by kernel_rfl) (oS 0 46) flat_isl (Nat.le_of_ble_eq_true rfl) store1_mat rfl
   intro _ a20 _ (S20 : Sta w 50 [(1000003, (RV w.heap.size (.slice pl' (g.k + 1) cl') 23 1 (g.k + 1) xl' (CE 1 (((gwL Bm (g.k + 1)).map (fun zs => VN zs.length zs)).map (· w.heap.size))))), (1000002, (RV w.heap.size (.slice pd' (g.k + 1 + 1) cd') 32 2 (g.k + 1 + 1) xd' (CE 2 (((gwD Bm (g.k + 1)).map ZN).map (· w.heap.size))))), (2, (q6avw0)), (5, (.box 26 (SF [(Is (.slice pd' (g.k + 1 + 1) cd')), (Is (.slice pl' (g.k + 1) cl'))])))] [(19, Mv n Bm K), (20, iV (n : Nat)), (21, iV (g.k : Nat)), (5, Is (.pointer (some ⟨gb, 0, none⟩))), (0, Mv n Bm K)] _ _ _)
   refine inBlkN (thenN ?_)
   refine wr [.val (iV (g.k + 1 : Nat)), .val (iV (g.k + 1 : Nat))] [.inr 0, .inr 1, .inr 2, .inr 3] [.inl 1, .inr 0, .inr 1, .inr 3, .inr 4] S20 ?_ ?_
   ·apply jj2
    ·exact b_add_int wA (oS 2 21) (opnd_const _)
    ·exact mO 0 48
   intro B21 a21 _ (S21 : Sta w 50 [(1000003, (RV w.heap.size (.slice pl' (g.k + 1) cl') 23 1 (g.k + 1) xl' (CE 1 (((gwL Bm (g.k + 1)).map (fun zs => VN zs.length zs)).map (· w.heap.size))))), (1000002, (RV w.heap.size (.slice pd' (g.k + 1 + 1) cd') 32 2 (g.k + 1 + 1) xd' (CE 2 (((gwD Bm (g.k + 1)).map ZN).map (· w.heap.size))))), (2, (q6avw0)), (5, (.box 26 (SF [(Is (.slice pd' (g.k + 1 + 1) cd')), (Is (.slice pl' (g.k + 1) cl'))])))] [(21, iV (g.k + 1 : Nat)), (19, Mv n Bm K), (20, iV (n : Nat)), (5, Is (.pointer (some ⟨gb, 0, none⟩))), (0, Mv n Bm K)] _ _ _)
   refine thenN ?_
   exact ⟨⟨g.k + 1, pd', cd', xd', pl', cl', xl'⟩, ⟨(by show g.k + 1 ≤ mm; omega), B21, S21.sub [0, 1, 2, 3] [1, 2, 0, 3, 4]⟩, (by show n - (g.k + 1) < n - g.k; omega)⟩
  ·skip
   obtain ⟨ek, hdz, rfl⟩ : g.k = mm ∧ (gwd Bm g.k).sign = 0 ∧ psi = (TWO (IS (.agg #[.slice none 0 0, .slice none 0 0])) (IS (.int .i64 50))) := by
    have ek : g.k = mm := by omega
    rcases hb with ⟨h9, _⟩ | ⟨_, _, h8, h7⟩
    ·exfalso; omega
    ·exact ⟨ek, by rw [ek, h8]; rfl, h7⟩
   refine wp_seq ?_
   refine wq [.val ((ZN (gwd Bm g.k)) w.heap.size), .val (iV ((gwd Bm g.k).sign)), kT] [.inr 0, .inr 1, .inr 2, .inr 3, .inr 4] [.inl 2, .inr 0, .inr 1, .inr 2, .inr 3, .inr 4, .inr 5] S13 ?_ ?_
   ·apply jj3
    ·exact lod 4 wA (loads_of strct_int shp_zn)
    ·exact ch1 wA (qO 0 32 rfl) (fresh_is _) (fun w u h => h_zsign (k := K) (by omega) w u (zn_zv ((ok g.k hgN).last.dl g.k (Nat.le_refl _)) _ _ h.now))
    ·exact b_eql_int_t wA (oO 1 33) (opnd_const _) (h := hdz)
   intro B14 a14 W14 (S14 : Sta w 50 [(1000003, (q6avw1 w Bm g)), (1000002, (q6avw3 w Bm g)), (2, (q6avw0)), (5, (q6avw2 g)), (9, (.box 32 ((ZN (gwd Bm g.k)) w.heap.size)))] [(34, bT), (8, (q6avw4 w Bm g)), (19, Mv n Bm K), (20, iV (n : Nat)), (21, iV (g.k : Nat)), (5, Is (.pointer (some ⟨gb, 0, none⟩))), (0, Mv n Bm K)] _ _ _)
   refine wp_cond_true (S14.bool 0 34 rfl) ?_
   refine wq [.val (Is (.agg #[.slice none 0 0, .slice none 0 0])), .put (.inl 2) (q6avw0), .val (iV 50)] [.inr 0, .inr 1, .inr 2, .inr 3] [.inl 2, .inr 2, .inr 3, .inr 4, .inr 5, .inr 6] S14 ?_ ?_
   ·apply jj3
    ·exact owe_build_gso rfl wA rfl rfl
    ·exact owe_set rfl wA rfl (k := 2) rfl (by kernel_rfl) (oO 0 35) (stores_of strct_gso shp_g0 shp_g0) rfl
    ·exact mC
   intro B15 a15 W15 (S15 : Sta w 50 [(1000003, (q6avw1 w Bm g)), (1000002, (q6avw3 w Bm g)), (2, (q6avw0)), (5, (q6avw2 g))] [(3, iV 50), (19, Mv n Bm K), (20, iV (n : Nat)), (21, iV (g.k : Nat)), (5, Is (.pointer (some ⟨gb, 0, none⟩))), (0, Mv n Bm K)] _ _ _)
   refine wp_ret (thenR (inBlkR (thenR (thenR (inBlkR (thenR ?_))))))
   exact end_two S15 rfl (res_cell S15 2 2 rfl strct_gso shp_g0) (res_tmp S15 0 3 rfl)
 ·obtain ⟨ek, rfl⟩ : g.k = n ∧ psi = (TWO (GN n (gwD Bm n) (gwL Bm n)) (IS (.int .i64 0))) := by
   rcases hb with ⟨h8, _, h7⟩ | ⟨h8, _⟩
   ·exact ⟨by omega, h7⟩
   ·exfalso; omega
  refine wq [kF] [.inr 0, .inr 1, .inr 2, .inr 3] [.inl 0, .inr 0, .inr 1, .inr 2, .inr 3, .inr 4] S10 ?_ ?_
  ·apply jj1
   ·exact b_lss_int_f wA (oS 2 21) (oS 1 20)
  intro B11 a11 W11 (S11 : Sta w 50 [(1000003, (q6avw1 w Bm g)), (1000002, (q6avw3 w Bm g)), (2, (q6avw0)), (5, (q6avw2 g))] [(22, bF), (19, Mv n Bm K), (20, iV (n : Nat)), (21, iV (g.k : Nat)), (5, Is (.pointer (some ⟨gb, 0, none⟩))), (0, Mv n Bm K)] _ _ _)
  refine wp_seq (wp_cond_false (S11.bool 0 22 rfl) (wp_exit (thenX (thenX (inBlkE (thenN ?_))))))
  refine wq [.val (SF [(Is (.slice g.pd (g.k + 1) g.cd)), (Is (.slice g.pl g.k g.cl))]), .put (.inl 2) (q6avw2 g), .val (iV 0)] [.inr 0, .inr 1, .inr 2, .inr 3] [.inl 2, .inr 1, .inr 2, .inr 3, .inr 4, .inr 5] S11 ?_ ?_
  ·apply jj3
   ·exact lod 3 wA (loads_of strct_gso shp_sf2)
   ·exact owe_set rfl wA rfl (k := 2) rfl (by kernel_rfl) (oO 0 49) (stores_of strct_gso shp_g0 shp_sf2) rfl
   ·exact mC
  intro B12 a12 W12 (S12 : Sta w 50 [(1000003, (q6avw1 w Bm g)), (1000002, (q6avw3 w Bm g)), (2, (q6avw2 g)), (5, (q6avw2 g))] [(3, iV 0), (19, Mv n Bm K), (20, iV (n : Nat)), (21, iV (g.k : Nat)), (5, Is (.pointer (some ⟨gb, 0, none⟩))), (0, Mv n Bm K)] _ _ _)
  refine wp_ret ?_
  exact end_two S12 rfl (by have q := res_gso S12 2 2 1 0 rfl rfl rfl; rw [ek] at q; exact q) (res_tmp S12 0 3 rfl)

theorem wide_ok (w : World) (u : Value) (n x K : Nat) (Bm : List (List Int)) (h : Hs w (Mv n Bm K) u) (hn0 : 0 < n) (hn : n ≤ 12) (hx : x ≤ 12) (hK0 : 1 ≤ K) (hK : K ≤ 500000000) (lB : Bm.length = n) (hw : nar Bm) (hR : Reg Bm x) (ok : WdOk Bm n K) (hd : ∀ i, i < n → gwd Bm i ≠ 0) :
  Calls Tryz.prog 14 #[u] w (Gives (TWO (GN n (gwD Bm n) (gwL Bm n)) (IS (.int .i64 0))) w) := wide_all w u n x K Bm h hn0 hn hx hK0 hK lB hw hR n n ok hd _ (Or.inl ⟨rfl, rfl, rfl⟩)
theorem wide_dep (w : World) (u : Value) (n x K : Nat) (Bm : List (List Int)) (h : Hs w (Mv n Bm K) u) (i0 : Nat) (hi0 : i0 < n) (hn0 : 0 < n) (hn : n ≤ 12) (hx : x ≤ 12) (hK0 : 1 ≤ K) (hK : K ≤ 500000000) (lB : Bm.length = n) (hw : nar Bm) (hR : Reg Bm x) (ok : WdOk Bm (i0 + 1) K) (hd : ∀ i, i < i0 → gwd Bm i ≠ 0) (hz : gwd Bm i0 = 0) :
  Calls Tryz.prog 14 #[u] w (Gives (TWO (IS (.agg #[.slice none 0 0, .slice none 0 0])) (IS (.int .i64 50))) w) := wide_all w u n x K Bm h hn0 hn hx hK0 hK lB hw hR i0 (i0 + 1) ok hd _ (Or.inr ⟨hi0, rfl, hz, rfl⟩)

end Go.Proofs.YtbgelajoomneiaaGreat
