import Derived.Test.YtkiholgfamfgeaaGreatGsA
import Derived.Test.YtkiholgfamfgeaaGreatSetV
import Derived.Test.YtkiholgfamfgeaaGreatSetG
import Derived.Test.YtkiholgfamfgeaaGreatMConts
import Derived.Test.YtkiholgfamfgeaaGreatJoins
/-
  Layer 5 in the logic: the struct of the data, its rules; what the program reckons, as functions.
-/
namespace Go.Proofs.YtkiholgfamfgeaaGreat
open Go Go.RowKit Nt
set_option linter.unusedSimpArgs false
set_option linter.unusedVariables false
set_option maxRecDepth 20000

theorem strct_gso : Strct 25 2 := ⟨⟨_, Tryz.underlying25, rfl⟩, by kernel_rfl⟩
theorem shp_g0 : Shp 2 (Is (.agg #[.slice none 0 0, .slice none 0 0])) := fun u w h => ⟨_, h, rfl, by simp [Value.oneCell']⟩
theorem shp_sf2 {p q : Pr} : Shp 2 (SF [p, q]) := shp_sf (ps := [p, q])
theorem shp_isz {s : Bool} {p : Option Addr} {n c : Nat} : Shp 2 (Is (.agg #[.bool s, .slice p n c])) := fun u w h => ⟨_, h, rfl, by simp [Value.oneCell']⟩
theorem alloc_gso (ρ : Operand → Value) (o : Oper) (w : World) : (execOp ρ { o with op := .alloc 25 }).run Tryz.prog w = .ok (.value (.pointer (some ⟨w.heap.size, 0, none⟩))) (w.alloc (.cells (Value.agg #[.slice none 0 0, .slice none 0 0]).cells 25 (0, 0))) := by
  unfold execOp
  go_simp
theorem box_gso {φ : Pr} (h : Shp 2 φ) (ρ : Operand → Value) (o : Oper) (x : Operand) (w : World) (hφ : φ (ρ x) w) : (execOp ρ { o with op := .box 25 x }).run Tryz.prog w = .ok (.value (.pointer (some ⟨w.heap.size, 0, none⟩))) (w.alloc (.cells (ρ x).cells 25 (0, 0))) := by
  obtain ⟨cs, e, h1, h2⟩ := h _ _ hφ
  unfold execOp
  rw [e]
  go_simp
theorem part_gso0 (ρ : Operand → Value) (o : Oper) (x : Operand) (w : World) (b f : Nat) (h : ρ x = .pointer (some ⟨b, f, none⟩)) : (execOp ρ { o with op := .fieldAddr 25 x 0 }).run Tryz.prog w = .ok (.value (.pointer (some ⟨b, f, none⟩))) w := by
  unfold execOp
  go_simp
theorem part_gso1 (ρ : Operand → Value) (o : Oper) (x : Operand) (w : World) (b f : Nat) (h : ρ x = .pointer (some ⟨b, f, none⟩)) : (execOp ρ { o with op := .fieldAddr 25 x 1 }).run Tryz.prog w = .ok (.value (.pointer (some ⟨b, f + 1, none⟩))) w := by
  unfold execOp
  go_simp
theorem ploadS {ps : List Pr} {χ : Pr} {f : Nat} {T T' : TypeId} (hp : ps[f]? = some χ) (hL : Load1 T') (ρ : Operand → Value) (o : Oper) (x : Operand) (w : World) (b : Nat) (u : Value) (hφ : SF ps u w) (hx : ρ x = .pointer (some ⟨b, f, none⟩)) (hb : w.heap[b]? = some (.cells u.cells T (0, 0))) :
    ∃ v, (execOp ρ { o with op := .load T' x }).run Tryz.prog w = .ok (.value v) w ∧ ∀ w', SF ps u w' → χ v w' := by
  obtain ⟨cs, rfl, h1, h2, h3⟩ := hφ
  obtain ⟨v, hv, _⟩ := h3 f χ hp
  refine ⟨v, hL ρ w o x b f v hx (sf_cell hb hv), fun w' h' => ?_⟩
  obtain ⟨_, _, h4⟩ := h'.get
  obtain ⟨v', hv', hχ⟩ := h4 f χ hp
  rw [hv] at hv'
  cases hv'
  exact hχ
theorem Sta.reboxS {w0 W : World} {n : Nat} {bx : Bxs} {sl : List (Tmp × Pr)} {B : Nat → Prop} {a : Act} (S : Sta w0 n bx sl B a W) (k : Nat) {t : Nat} {T : TypeId} {φ ψ : Pr} (h : bx[k]? = some (t, .box T φ)) (hi : ∀ v w, φ v w → ψ v w) : Sta w0 n (bx.set k (t, .box T ψ)) sl B a W := by
  have hm := List.mem_of_getElem? h
  have key : ∀ x ∈ bx.set k (t, .box T ψ), ∃ y ∈ bx, y.1 = x.1 ∧ (∀ v b, x.2.set v b ↔ y.2.set v b) ∧ (y.2.at w0.heap.size B W (a.eval (.tmp x.1)) → x.2.at w0.heap.size B W (a.eval (.tmp x.1))) := fun x hx => by
    rcases List.mem_or_eq_of_mem_set hx with h1 | rfl
    · exact ⟨x, h1, rfl, fun _ _ => Iff.rfl, id⟩
    · exact ⟨_, hm, rfl, fun _ _ => Iff.rfl, fun ⟨b, u, h1, h2, h3, h4⟩ => ⟨b, u, h1, h2, h3, h4.imp (fun w => hi u w)⟩⟩
  refine ⟨S.ent, S.bnd, S.siz, S.dfr, fun x hx => ?_, fun x hx y hy b hbx hby => ?_, S.slt⟩
  · obtain ⟨y, hy, e, _, h2⟩ := key x hx
    exact h2 (by rw [← e]; exact S.box y hy)
  · obtain ⟨x', hx', ex, sx, _⟩ := key x hx
    obtain ⟨y', hy', ey, sy, _⟩ := key y hy
    have := S.sep x' hx' y' hy' b (by rw [ex]; exact (sx _ _).1 hbx) (by rw [ey]; exact (sy _ _).1 hby)
    rw [← ex, ← ey, this]

section
variable {ops : Array Oper} {l : List Kd} {bx : Bxs} {sl : List (Tmp × Pr)} {i : Nat} {o : Oper} {Q : Exit → Act → World → Prop} {a0 : Act} {n : Nat} {w0 : World}
/-- A call, by all that is known when it comes up. -/
theorem owe_callW {χ : Pr} {f : FuncId} {xs : Array Operand} {ts : Array TypeId} (ho : ops[i]? = some o) (hw : Wants ops l bx sl i o) (hop : o.op = .call { callee := .value (.func f), args := xs, argTypes := ts }) (hk : kdAt l i = .val χ)
    (hcf : ∀ args w, (callFunc f args).run Tryz.prog w = .ok (.enter f args) w)
    (h : ∀ vs B a w, Ctx ops l bx sl a0 n w0 i vs B a w → Calls Tryz.prog f (xs.map a.eval) w fun e w' => ∃ r, e = .returned r ∧ Below w.heap.size w w' ∧ Has B w' χ r) : Owed Tryz.prog ops Q l bx sl a0 n w0 i := fun vs B a w c o' ho' => by
  obtain rfl : o = o' := Option.some.inj (ho.symm.trans ho')
  have hr : (execOp a.eval o).run Tryz.prog w = .ok (.enter f (xs.map a.eval)) w := by
    unfold execOp
    rw [hop]
    have hf : a.eval (.func f) = .func (.func f) #[] #[] := rfl
    generalize a.eval = ρ at hf
    go_simp
  simp only [wpOp, ho]
  rw [if_pos (hw a0 n w0 vs B a w c)]
  refine Or.inl ?_
  unfold Oper.wp
  rw [hr, Oper.upon_enter]
  refine (h vs B a w c).mono ?_
  rintro e w' ⟨v, rfl, hb, hψ⟩
  refine ⟨v, rfl, ?_⟩
  rw [hk]
  exact ⟨hb, hψ⟩
theorem gives_has {ψ : Nat → Pr} {vs : Nat → Value} {B : Nat → Prop} {a : Act} {w : World} (hF : Fresh ψ) (c : Ctx ops l bx sl a0 n w0 i vs B a w) {e : Ending} {w' : World} (h : Gives ψ w e w') : ∃ r, e = .returned r ∧ Below w.heap.size w w' ∧ Has B w' (ψ w0.heap.size) r := by
  obtain ⟨v, rfl, hb, hψ⟩ := h
  exact ⟨v, rfl, hb, fun w'' e'' => hF.mono _ _ _ _ c.lo (hF.ev _ _ _ _ B (fun k hk => (c.bnd k hk).2) hψ e'')⟩
/-- The struct with one field set. -/
theorem owe_buildG {x : Operand} {p : Option Addr} {m c : Nat} (ho : ops[i]? = some o) (hw : Wants ops l bx sl i o) (hop : o.op = .build 25 #[(0, x)]) (hx : Opnd ops l bx sl i x (Is (.slice p m c))) (hk : kdAt l i = .val (SF [Is (.slice p m c), Is (.slice none 0 0)])) : Owed Tryz.prog ops Q l bx sl a0 n w0 i :=
  owe_val ho hw hk fun vs B a w cx => by
    have hxv : a.eval x = .slice p m c := (hx a0 n w0 vs B a w cx).now
    refine ⟨.agg #[.slice p m c, .slice none 0 0], ?_, fun w' ev => ⟨_, rfl, rfl, by simp [Value.oneCell'], fun f q hq => ?_⟩⟩
    · unfold execOp
      rw [hop]
      generalize a.eval = ρ at hxv
      go_simp
    · match f, hq with
      | 0, hq => simp at hq; subst hq; exact ⟨_, rfl, rfl⟩
      | 1, hq => simp at hq; subst hq; exact ⟨_, rfl, rfl⟩
end

/-! What is reckoned. -/
theorem dl_getD {zs : List Int} {k : Nat} (h : Dl zs k) (i : Nat) : (digs (zs.getD i 0).natAbs).length ≤ k := by
  rw [List.getD_eq_getElem?_getD]
  cases e : zs[i]? with
  | none => show (digs (0 : Int).natAbs).length ≤ k; rw [show (0 : Int).natAbs = 0 from rfl, digs_zero]; exact Nat.zero_le _
  | some z => exact h i z e
theorem digs_sub_len {A B : Int} {k : Nat} (h1 : (digs A.natAbs).length ≤ k) (h2 : (digs B.natAbs).length ≤ k) : (digs (A - B).natAbs).length ≤ k + 1 :=
  Nat.le_trans (digs_length_mono (by omega : (A - B).natAbs ≤ A.natAbs + B.natAbs)) (digs_add_len h1 h2)
theorem zv_at {D : List Int} {K k : Nat} (h : k < D.length) : (D.map (fun z => Zv z K))[k]? = some (Zv (D.getD k 0) K) := by
  rw [List.getElem?_map, List.getElem?_eq_getElem h, List.getD_eq_getElem?_getD, List.getElem?_eq_getElem h]
  rfl
theorem vv_at {A : List (List Int)} {K k : Nat} (h : k < A.length) : (A.map (fun zs => Vv zs.length zs K))[k]? = some (Vv (A.getD k []).length (A.getD k []) K) := by
  rw [List.getElem?_map, List.getElem?_eq_getElem h, List.getD_eq_getElem?_getD, List.getElem?_eq_getElem h]
  rfl
/-- The dot product when the first rows have been taken out of both. -/
def tk (D L M : List Int) (z : Int) : Nat → Int
  | 0 => z
  | k + 1 => fl (D.getD (k + 1) 0 * tk D L M z k - L.getD k 0 * M.getD k 0) (D.getD k 0)
structure TkOk (D L M : List Int) (z : Int) (m K : Nat) : Prop where
  ne : ∀ k, k < m → D.getD k 0 ≠ 0
  ex : ∀ k, k < m → rm (D.getD (k + 1) 0 * tk D L M z k - L.getD k 0 * M.getD k 0) (D.getD k 0) = 0
  dl : ∀ k, k ≤ m → (digs (tk D L M z k).natAbs).length ≤ K
/-- What lies in the box behind k rounds. -/
def TkP (D L M : List Int) (z : Int) (K lo : Nat) : Nat → Pr
  | 0 => Zv z K
  | k + 1 => ZN (tk D L M z (k + 1)) lo
theorem tkp_zv {D L M : List Int} {z : Int} {K lo m k : Nat} (ok : TkOk D L M z m K) (hk : k ≤ m) : ∀ v w, TkP D L M z K lo k v w → Zv (tk D L M z k) K v w := fun v w h => by
  cases k with
  | zero => exact h
  | succ k => exact zn_zv (ok.dl _ hk) v w h
theorem tkp_zn {D L M : List Int} {z : Int} {K lo k : Nat} (hk : 0 < k) : ∀ v w, TkP D L M z K lo k v w → ZN (tk D L M z k) lo v w := fun v w h => by
  cases k with
  | zero => omega
  | succ k => exact h
end Go.Proofs.YtkiholgfamfgeaaGreat

/-
  gso.takenOut.
-/
namespace Go.Proofs.YtkiholgfamfgeaaGreat
open Go Go.RowKit Nt
set_option linter.unusedSimpArgs false
set_option linter.unusedVariables false
set_option maxRecDepth 20000


set_option maxHeartbeats 400000 in
theorem taken_0 (w : World) (u0 u2 u3 : Value) (s : Bool) (p : Option Addr) (nn c K : Nat) (L : List Int) (h2 : Hs w (Vv 0 L K) u2) :
    Calls Tryz.prog 97 #[u0, .agg #[.bool s, .slice p nn c], u2, u3] w (Gives (IS (.agg #[.bool s, .slice p nn c])) w) := by
  refine calls_sta (sl := [(0, (fun _ _ => True)), (1, (Is (.agg #[.bool s, .slice p nn c]))), (2, (Vv 0 L K)), (3, (fun _ _ => True))]) Tryz.func97 rfl Tryz.ntmps97 (by simp) (args_cons rfl (fun _ _ => trivial) (args_cons rfl (is_has _) (args_cons rfl (h2) (args_cons rfl (fun _ _ => trivial) args_nil)))) ?_
  intro a0 S0
  refine wp_stmt_seq [.new (.box 28 (Is (.agg #[.bool s, .slice p nn c]))), .new (.box 28 zI)] [.inl 0, .inl 1] [.inr 0, .inr 2, .inr 3] follows S0 rfl (by kernel_rfl) ?_ ?_
  · refine ⟨⟨trivial, ?_⟩, ?_⟩
    · exact owe_box rfl wA rfl (oS 1 1) rfl (fun ρ w h => box_int shp_isz ρ _ _ w h)
    · exact owe_new rfl wA rfl rfl (fun ρ w => alloc_int ρ _ w)
  intro B1 a1 W1 (S1 : Sta w 43 [(5, (.box 28 (Is (.agg #[.bool s, .slice p nn c])))), (8, (.box 28 zI))] [(0, (fun _ _ => True)), (2, Vv 0 L K), (3, (fun _ _ => True))] _ _ _)
  refine wp_seq ?_
  refine wp_stmt_seq [.val (Vv 0 L K), .val (iV (0 : Nat)), .val (iV 0)] [.inr 0, .inr 1] [.inl 1, .inl 2, .inr 0, .inr 1, .inr 2] follows S1 rfl (by kernel_rfl) ?_ ?_
  · refine ⟨⟨⟨trivial, ?_⟩, ?_⟩, ?_⟩
    · exact mS 1 2
    · exact owe_len rfl wA rfl (oO 0 10) ar_len Tryz.underlying22 rfl
    · exact mC
  intro B2 a2 W2 (S2 : Sta w 43 [(5, (.box 28 (Is (.agg #[.bool s, .slice p nn c])))), (8, (.box 28 zI))] [(11, iV (0 : Nat)), (12, iV 0), (0, (fun _ _ => True)), (2, Vv 0 L K), (3, (fun _ _ => True))] _ _ _)
  refine wp_block ?_
  refine wp_loop_ghost (fun (k0 : Nat) a W => (k0 = 0) ∧ ∃ Bq, Sta w 43 [(5, (.box 28 (Is (.agg #[.bool s, .slice p nn c])))), (8, (.box 28 zI))] [(11, iV (0 : Nat)), (12, iV (k0 : Nat)), (0, (fun _ _ => True)), (2, Vv 0 L K), (3, (fun _ _ => True))] Bq a W) (fun (k0 : Nat) => 0) ?_ 0 ⟨rfl, B2, S2.sub [0, 1] [0, 1, 2, 3, 4]⟩
  rintro k0 a3 W3 ⟨hcond, B3, S3⟩
  · skip
    refine wp_stmt_seq [kF] [.inr 0, .inr 1] [.inl 0, .inr 0, .inr 1, .inr 2, .inr 3, .inr 4] follows S3 rfl (by kernel_rfl) ?_ ?_
    · refine ⟨trivial, ?_⟩
      · exact b_lss_int_f wA (oS 1 12) (oS 0 11)
    intro B4 a4 W4 (S4 : Sta w 43 [(5, (.box 28 (Is (.agg #[.bool s, .slice p nn c])))), (8, (.box 28 zI))] [(13, bF), (11, iV (0 : Nat)), (12, iV (k0 : Nat)), (0, (fun _ _ => True)), (2, Vv 0 L K), (3, (fun _ _ => True))] _ _ _)
    refine wp_seq ?_
    refine wp_cond_false (S4.bool 0 13 rfl) ?_
    refine wp_exit ?_
    refine thenX ?_
    refine thenX ?_
    refine inBlkE ?_
    refine thenN ?_
    refine wp_stmt_seq [.val (Is (.agg #[.bool s, .slice p nn c])), .put (.inl 8) (.box 28 (Is (.agg #[.bool s, .slice p nn c])))] [.inr 0, .inr 1] [.inr 1, .inr 2, .inr 3, .inr 4, .inr 5] follows S4 rfl (by kernel_rfl) ?_ ?_
    · refine ⟨⟨trivial, ?_⟩, ?_⟩
      · exact lod 0 wA (loads_of strct_int shp_isz)
      · exact owe_set rfl wA rfl (k := 1) rfl (by kernel_rfl) (oO 0 42) (stores_of strct_int shp_z0 shp_isz) rfl
    intro B5 a5 W5 (S5 : Sta w 43 [(5, (.box 28 (Is (.agg #[.bool s, .slice p nn c])))), (8, (.box 28 (Is (.agg #[.bool s, .slice p nn c]))))] [(11, iV (0 : Nat)), (12, iV (k0 : Nat)), (0, (fun _ _ => True)), (2, Vv 0 L K), (3, (fun _ _ => True))] _ _ _)
    refine wp_ret ?_
    exact end_one S5 rfl (res_cell S5 1 8 rfl strct_int shp_isz)

set_option maxHeartbeats 2000000 in
theorem taken_s (w : World) (u0 u1 u2 u3 : Value) (n1 m m2 K : Nat) (D L M : List Int) (z : Int) (h0 : Hs w (Vv n1 D K) u0) (h1 : Hs w (Zv z K) u1) (h2 : Hs w (Vv m L K) u2) (h3 : Hs w (Vv m2 M K) u3) (hn : m < n1) (hm : m ≤ m2) (h0m : 0 < m) (hK : K ≤ 1073741824) (hN : n1 ≤ 1048576) (ok : TkOk D L M z m K) :
    Calls Tryz.prog 97 #[u0, u1, u2, u3] w (Gives (ZN (tk D L M z m)) w) := by
  have lD := vv_len h0.now
  have lL := vv_len h2.now
  have lM := vv_len h3.now
  refine calls_sta (sl := [(0, (Vv n1 D K)), (1, (Zv z K)), (2, (Vv m L K)), (3, (Vv m2 M K))]) Tryz.func97 rfl Tryz.ntmps97 (by simp) (args_cons rfl (h0) (args_cons rfl (h1) (args_cons rfl (h2) (args_cons rfl (h3) args_nil)))) ?_
  intro a0 S0
  refine wp_stmt_seq [.new (.box 28 (Zv z K)), .new (.box 28 zI)] [.inl 0, .inl 1] [.inr 0, .inr 2, .inr 3] follows S0 rfl (by kernel_rfl) ?_ ?_
  · refine ⟨⟨trivial, ?_⟩, ?_⟩
    · exact owe_box rfl wA rfl (oS 1 1) rfl (fun ρ w h => box_int shp_zv ρ _ _ w h)
    · exact owe_new rfl wA rfl rfl (fun ρ w => alloc_int ρ _ w)
  intro B1 a1 W1 (S1 : Sta w 43 [(5, (.box 28 (Zv z K))), (8, (.box 28 zI))] [(0, Vv n1 D K), (2, Vv m L K), (3, Vv m2 M K)] _ _ _)
  refine wp_seq ?_
  refine wp_stmt_seq [.val (Vv m L K), .val (iV (m : Nat)), .val (iV 0)] [.inr 0, .inr 1] [.inl 1, .inl 2, .inr 0, .inr 1, .inr 2] follows S1 rfl (by kernel_rfl) ?_ ?_
  · refine ⟨⟨⟨trivial, ?_⟩, ?_⟩, ?_⟩
    · exact mS 1 2
    · exact owe_len rfl wA rfl (oO 0 10) ar_len Tryz.underlying22 rfl
    · exact mC
  intro B2 a2 W2 (S2 : Sta w 43 [(5, (.box 28 (Zv z K))), (8, (.box 28 zI))] [(11, iV (m : Nat)), (12, iV 0), (0, Vv n1 D K), (2, Vv m L K), (3, Vv m2 M K)] _ _ _)
  refine wp_block ?_
  refine wp_loop_ghost (fun (k0 : Nat) a W => (k0 ≤ m) ∧ ∃ Bq, Sta w 43 [(5, (.box 28 (TkP D L M z K w.heap.size k0))), (8, (.box 28 zI))] [(11, iV (m : Nat)), (12, iV (k0 : Nat)), (0, Vv n1 D K), (2, Vv m L K), (3, Vv m2 M K)] Bq a W) (fun (k0 : Nat) => m - k0) ?_ 0 ⟨Nat.zero_le _, B2, S2.sub [0, 1] [0, 1, 2, 3, 4]⟩
  rintro k0 a3 W3 ⟨hcond, B3, S3⟩
  by_cases hlt : k0 < m
  · have hq0 := ok.dl k0 (by omega)
    have hD1 := vv_dl h0.now
    have hL1 := vv_dl h2.now
    have hM1 := vv_dl h3.now
    have hq1 : (digs ((D.getD (k0 + 1) 0) * (tk D L M z k0)).natAbs).length ≤ 2 * K := by rw [Int.natAbs_mul]; exact Nat.le_trans (digs_mul_len (dl_getD hD1 _) hq0) (by omega)
    have hq2 : (digs ((L.getD k0 0) * (M.getD k0 0)).natAbs).length ≤ 2 * K := by rw [Int.natAbs_mul]; exact Nat.le_trans (digs_mul_len (dl_getD hL1 _) (dl_getD hM1 _)) (by omega)
    have hq3 : (digs (((D.getD (k0 + 1) 0) * (tk D L M z k0)) - ((L.getD k0 0) * (M.getD k0 0))).natAbs).length ≤ 2 * K + 1 := digs_sub_len hq1 hq2
    have S3 := S3.reboxS 0 rfl (tkp_zv ok (by omega))
    refine wp_stmt_seq [kT] [.inr 0, .inr 1] [.inl 0, .inr 0, .inr 1, .inr 2, .inr 3, .inr 4] follows S3 rfl (by kernel_rfl) ?_ ?_
    · refine ⟨trivial, ?_⟩
      · exact b_lss_int_t wA (oS 1 12) (oS 0 11)
    intro B4 a4 W4 (S4 : Sta w 43 [(5, (.box 28 (Zv (tk D L M z k0) K))), (8, (.box 28 zI))] [(13, bT), (11, iV (m : Nat)), (12, iV (k0 : Nat)), (0, Vv n1 D K), (2, Vv m L K), (3, Vv m2 M K)] _ _ _)
    refine wp_seq ?_
    refine wp_cond_true (S4.bool 0 13 rfl) ?_
    refine wp_skip ?_
    refine thenN ?_
    refine wp_seq ?_
    refine wp_block ?_
    refine wp_stmt_seq [.val (iV (k0 : Nat)), .val (iV (k0 : Nat))] [.inr 0, .inr 1] [.inl 1, .inr 1, .inr 2, .inr 3, .inr 4, .inr 5] follows S4 rfl (by kernel_rfl) ?_ ?_
    · refine ⟨⟨trivial, ?_⟩, ?_⟩
      · exact mS 2 12
      · exact mO 0 14
    intro B5 a5 W5 (S5 : Sta w 43 [(5, (.box 28 (Zv (tk D L M z k0) K))), (8, (.box 28 zI))] [(9, iV (k0 : Nat)), (11, iV (m : Nat)), (12, iV (k0 : Nat)), (0, Vv n1 D K), (2, Vv m L K), (3, Vv m2 M K)] _ _ _)
    refine wp_stmt_seq [.val (Vv n1 D K), .val (iV (k0 : Nat)), .val (iV ((k0 + 1 : Nat) : Int)), .val (AtE 2 (Zv (D.getD (k0 + 1) 0) K)), .val (Zv (D.getD (k0 + 1) 0) K), .val (Zv (tk D L M z k0) K), .val ((ZN ((D.getD (k0 + 1) 0) * (tk D L M z k0))) w.heap.size), .val (Vv m L K), .val (iV (k0 : Nat)), .val (AtE 2 (Zv (L.getD k0 0) K)), .val (Zv (L.getD k0 0) K), .val (Vv m2 M K), .val (iV (k0 : Nat)), .val (AtE 2 (Zv (M.getD k0 0) K)), .val (Zv (M.getD k0 0) K), .val ((ZN ((L.getD k0 0) * (M.getD k0 0))) w.heap.size), .val ((ZN (((D.getD (k0 + 1) 0) * (tk D L M z k0)) - ((L.getD k0 0) * (M.getD k0 0)))) w.heap.size), .put (.inl 5) (.box 28 ((ZN (((D.getD (k0 + 1) 0) * (tk D L M z k0)) - ((L.getD k0 0) * (M.getD k0 0)))) w.heap.size))] [.inr 0, .inr 1] [.inr 0, .inr 1, .inr 2, .inr 3, .inr 4, .inr 5] follows S5 rfl (by kernel_rfl) ?_ ?_
    · repeat' refine And.intro ?_ ?_
      · trivial
      · exact mS 3 0
      · exact mS 0 9
      · exact b_add_int wA (oO 1 16) (opnd_const _)
      · exact owe_aindex rfl wA rfl idx_ints (oO 0 15) (oO 2 17) (zv_at (by omega)) rfl
      · exact owe_aload rfl wA rfl ldr_int (by decide) (cel_shp (by decide) shp_zv) (oO 3 18) rfl
      · exact lod 0 wA (loads_of strct_int shp_zv)
      · exact cc2 wA (qO 4 19 rfl) (qO 5 20 rfl) (fresh_zn _) (fun w u v h1 h2 => g_zmul (by omega) w u v ((fun _ _ h => h) _ _ h1) ((fun _ _ h => h) _ _ h2))
      · exact mS 4 2
      · exact mS 0 9
      · exact owe_aindex rfl wA rfl idx_ints (oO 7 22) (oO 8 23) (zv_at (by omega)) rfl
      · exact owe_aload rfl wA rfl ldr_int (by decide) (cel_shp (by decide) shp_zv) (oO 9 24) rfl
      · exact mS 5 3
      · exact mS 0 9
      · exact owe_aindex rfl wA rfl idx_ints (oO 11 26) (oO 12 27) (zv_at (by omega)) rfl
      · exact owe_aload rfl wA rfl ldr_int (by decide) (cel_shp (by decide) shp_zv) (oO 13 28) rfl
      · exact cc2 wA (qO 10 25 rfl) (qO 14 29 rfl) (fresh_zn _) (fun w u v h1 h2 => g_zmul (by omega) w u v ((fun _ _ h => h) _ _ h1) ((fun _ _ h => h) _ _ h2))
      · exact cc2 wA (qO 6 21 rfl) (qO 15 30 rfl) (fresh_zn _) (fun w u v h1 h2 => g_zsub (by omega) (by omega) w u v ((zn_zv hq1) _ _ h1) ((zn_zv hq2) _ _ h2))
      · exact owe_set rfl wA rfl (k := 0) rfl (by kernel_rfl) (oO 16 31) (stores_of strct_int shp_zv shp_zn) rfl
    intro B6 a6 W6 (S6 : Sta w 43 [(5, (.box 28 ((ZN (((D.getD (k0 + 1) 0) * (tk D L M z k0)) - ((L.getD k0 0) * (M.getD k0 0)))) w.heap.size))), (8, (.box 28 zI))] [(9, iV (k0 : Nat)), (11, iV (m : Nat)), (12, iV (k0 : Nat)), (0, Vv n1 D K), (2, Vv m L K), (3, Vv m2 M K)] _ _ _)
    refine wp_stmt [.val ((ZN (((D.getD (k0 + 1) 0) * (tk D L M z k0)) - ((L.getD k0 0) * (M.getD k0 0)))) w.heap.size), .val (Vv n1 D K), .val (iV (k0 : Nat)), .val (AtE 2 (Zv (D.getD k0 0) K)), .val (Zv (D.getD k0 0) K), .val ((TWO (ZN (fl (((D.getD (k0 + 1) 0) * (tk D L M z k0)) - ((L.getD k0 0) * (M.getD k0 0))) (D.getD k0 0))) (IS (.int .i64 0))) w.heap.size), .val ((TWO (ZN (fl (((D.getD (k0 + 1) 0) * (tk D L M z k0)) - ((L.getD k0 0) * (M.getD k0 0))) (D.getD k0 0))) (IS (.int .i64 0))) w.heap.size), .val ((ZN (fl (((D.getD (k0 + 1) 0) * (tk D L M z k0)) - ((L.getD k0 0) * (M.getD k0 0))) (D.getD k0 0))) w.heap.size), .val (iV 0), .put (.inl 5) (.box 28 ((ZN (fl (((D.getD (k0 + 1) 0) * (tk D L M z k0)) - ((L.getD k0 0) * (M.getD k0 0))) (D.getD k0 0))) w.heap.size))] [.inr 0, .inr 1] [.inr 1, .inr 2, .inr 3, .inr 4, .inr 5] follows S6 rfl (by kernel_rfl) ?_ ?_
    · repeat' refine And.intro ?_ ?_
      · trivial
      · exact lod 0 wA (loads_of strct_int shp_zn)
      · exact mS 3 0
      · exact mS 0 9
      · exact owe_aindex rfl wA rfl idx_ints (oO 1 34) (oO 2 35) (zv_at (by omega)) rfl
      · exact owe_aload rfl wA rfl ldr_int (by decide) (cel_shp (by decide) shp_zv) (oO 3 36) rfl
      · exact cc2 wA (qO 0 33 rfl) (qO 4 37 rfl) (fresh_two (fresh_zn _) (fresh_is _)) (fun w u v h1 h2 => g_zexact2 (ok.ne k0 hlt) (ok.ex k0 hlt) (by omega) w u v ((zn_zv hq3) _ _ h1) ((fun _ _ h => h) _ _ h2))
      · exact mO 5 38
      · exact e20 wA (oO 6 32)
      · exact e21 wA (oO 6 32)
      · exact owe_set rfl wA rfl (k := 0) rfl (by kernel_rfl) (oO 7 39) (stores_of strct_int shp_zn shp_zn) rfl
    intro B7 a7 W7 (S7 : Sta w 43 [(5, (.box 28 ((ZN (fl (((D.getD (k0 + 1) 0) * (tk D L M z k0)) - ((L.getD k0 0) * (M.getD k0 0))) (D.getD k0 0))) w.heap.size))), (8, (.box 28 zI))] [(11, iV (m : Nat)), (12, iV (k0 : Nat)), (0, Vv n1 D K), (2, Vv m L K), (3, Vv m2 M K)] _ _ _)
    refine inBlkN ?_
    refine thenN ?_
    refine wp_stmt [.val (iV (k0 + 1 : Nat)), .val (iV (k0 + 1 : Nat))] [.inr 0, .inr 1] [.inl 1, .inr 0, .inr 2, .inr 3, .inr 4] follows S7 rfl (by kernel_rfl) ?_ ?_
    · refine ⟨⟨trivial, ?_⟩, ?_⟩
      · exact b_add_int wA (oS 1 12) (opnd_const _)
      · exact mO 0 41
    intro B8 a8 W8 (S8 : Sta w 43 [(5, (.box 28 ((ZN (fl (((D.getD (k0 + 1) 0) * (tk D L M z k0)) - ((L.getD k0 0) * (M.getD k0 0))) (D.getD k0 0))) w.heap.size))), (8, (.box 28 zI))] [(12, iV (k0 + 1 : Nat)), (11, iV (m : Nat)), (0, Vv n1 D K), (2, Vv m L K), (3, Vv m2 M K)] _ _ _)
    refine thenN ?_
    exact ⟨k0 + 1, ⟨by omega, B8, S8.sub [0, 1] [1, 0, 2, 3, 4]⟩, by omega⟩
  · have ek : k0 = m := by omega
    rw [ek] at S3
    have S3 := S3.reboxS 0 rfl (tkp_zn h0m)
    refine wp_stmt_seq [kF] [.inr 0, .inr 1] [.inl 0, .inr 0, .inr 1, .inr 2, .inr 3, .inr 4] follows S3 rfl (by kernel_rfl) ?_ ?_
    · refine ⟨trivial, ?_⟩
      · exact b_lss_int_f wA (oS 1 12) (oS 0 11)
    intro B4 a4 W4 (S4 : Sta w 43 [(5, (.box 28 ((ZN (tk D L M z m)) w.heap.size))), (8, (.box 28 zI))] [(13, bF), (11, iV (m : Nat)), (12, iV (m : Nat)), (0, Vv n1 D K), (2, Vv m L K), (3, Vv m2 M K)] _ _ _)
    refine wp_seq ?_
    refine wp_cond_false (S4.bool 0 13 rfl) ?_
    refine wp_exit ?_
    refine thenX ?_
    refine thenX ?_
    refine inBlkE ?_
    refine thenN ?_
    refine wp_stmt_seq [.val ((ZN (tk D L M z m)) w.heap.size), .put (.inl 8) (.box 28 ((ZN (tk D L M z m)) w.heap.size))] [.inr 0, .inr 1] [.inr 1, .inr 2, .inr 3, .inr 4, .inr 5] follows S4 rfl (by kernel_rfl) ?_ ?_
    · refine ⟨⟨trivial, ?_⟩, ?_⟩
      · exact lod 0 wA (loads_of strct_int shp_zn)
      · exact owe_set rfl wA rfl (k := 1) rfl (by kernel_rfl) (oO 0 42) (stores_of strct_int shp_z0 shp_zn) rfl
    intro B5 a5 W5 (S5 : Sta w 43 [(5, (.box 28 ((ZN (tk D L M z m)) w.heap.size))), (8, (.box 28 ((ZN (tk D L M z m)) w.heap.size)))] [(11, iV (m : Nat)), (12, iV (m : Nat)), (0, Vv n1 D K), (2, Vv m L K), (3, Vv m2 M K)] _ _ _)
    refine wp_ret ?_
    exact end_one S5 rfl (res_cell S5 1 8 rfl strct_int shp_zn)

end Go.Proofs.YtkiholgfamfgeaaGreat

/-
  gso.left.
-/
namespace Go.Proofs.YtkiholgfamfgeaaGreat
open Go Go.RowKit Nt
set_option linter.unusedSimpArgs false
set_option linter.unusedVariables false
set_option maxRecDepth 20000


def dotR (R B : List Int) : Int := sumZ (List.zipWith (· * ·) R B)
/-- The L of one more row. -/
def lfL (D : List Int) (L Bm : List (List Int)) (R : List Int) : Nat → List Int
  | 0 => []
  | j + 1 => lfL D L Bm R j ++ [tk D (lfL D L Bm R j) (L.getD j []) (dotR R (Bm.getD j [])) j]
theorem lfL_len (D : List Int) (L Bm : List (List Int)) (R : List Int) : ∀ j, (lfL D L Bm R j).length = j
  | 0 => rfl
  | j + 1 => by simp [lfL, lfL_len D L Bm R j]
structure LfOk (D : List Int) (L Bm : List (List Int)) (R : List Int) (m K : Nat) : Prop where
  row : ∀ j, j < m → TkOk D (lfL D L Bm R j) (L.getD j []) (dotR R (Bm.getD j [])) j K
  last : TkOk D (lfL D L Bm R m) (lfL D L Bm R m) (dotR R R) m K
theorem lf_dl {D : List Int} {L Bm : List (List Int)} {R : List Int} {m K : Nat} (ok : LfOk D L Bm R m K) : ∀ j, j ≤ m → Dl (lfL D L Bm R j) K
  | 0, _ => fun i z h => by simp [lfL] at h
  | j + 1, hj => fun i z h => by
    have hl := lfL_len D L Bm R j
    rcases Nat.lt_or_ge i j with h1 | h1
    · rw [lfL, List.getElem?_append_left (by omega)] at h
      exact lf_dl ok j (by omega) i z h
    · rw [lfL, List.getElem?_append_right (by omega)] at h
      cases hi : i - (lfL D L Bm R j).length with
      | zero => rw [hi] at h; simp at h; rw [← h]; exact (ok.row j (by omega)).dl j (Nat.le_refl _)
      | succ t => rw [hi] at h; simp at h
section
variable {ops : Array Oper} {l : List Kd} {bx : Bxs} {sl : List (Tmp × Pr)} {i : Nat} {o : Oper} {Q : Exit → Act → World → Prop} {a0 : Act} {n : Nat} {w0 : World} {vs : Nat → Value} {B : Nat → Prop} {a : Act} {w : World}
theorem taken_any (c : Ctx ops l bx sl a0 n w0 i vs B a w) {v0 v1 v2 v3 : Value} {n1 m m2 K : Nat} {D L M : List Int} {z : Int} (h0 : Hs w (Vv n1 D K) v0) (h1 : Has B w (ZN z w0.heap.size) v1) (h2 : Hs w (Vv m L K) v2) (h3 : Hs w (Vv m2 M K) v3) (hn : m < n1) (hm : m ≤ m2) (hK : K ≤ 1073741824) (hN : n1 ≤ 1048576) (ok : TkOk D L M z m K) :
    Calls Tryz.prog 97 #[v0, v1, v2, v3] w fun e w' => ∃ r, e = .returned r ∧ Below w.heap.size w w' ∧ Has B w' (ZN (tk D L M z m) w0.heap.size) r := by
  cases m with
  | zero =>
    obtain ⟨r, c', rfl, _⟩ := id h1.now
    refine (taken_0 w v0 v2 v3 _ _ _ _ K L h2).mono ?_
    rintro e w' ⟨v, rfl, hb, hv⟩
    obtain rfl : v = _ := hv
    exact ⟨_, rfl, hb, h1.go (Ev.of_below hb) (fun _ _ h => h)⟩
  | succ m => exact (taken_s w v0 v1 v2 v3 n1 (m + 1) m2 K D L M z h0 (h1.hs.imp (fun w => zn_zv (ok.dl 0 (by omega)) v1 w)) h2 h3 hn hm (by omega) hK hN ok).mono (fun e w' h => gives_has (fresh_zn _) c h)
end
section
variable {ops : Array Oper} {l : List Kd} {bx : Bxs} {sl : List (Tmp × Pr)} {i : Nat} {o : Oper} {Q : Exit → Act → World → Prop} {a0 : Act} {n : Nat} {w0 : World}
theorem owe_takenR {x0 x1 x2 x3 : Operand} {ts : Array TypeId} {t kk E n1 m m2 K : Nat} {D L M : List Int} {z : Int} (ho : ops[i]? = some o) (hw : Wants ops l bx sl i o) (hop : o.op = .call { callee := .value (.func 97), args := #[x0, x1, x2, x3], argTypes := ts })
    (h0 : Opnd ops l bx sl i x0 (Vv n1 D K)) (h1 : Opnd ops l bx sl i x1 (ZN z w0.heap.size)) (h2 : Opnd ops l bx sl i x2 (Is (a0.eval (.tmp t)))) (h3 : Opnd ops l bx sl i x3 (Vv m2 M K)) (hb : bx[kk]? = some (t, .row E 2 m (CE 2 ((L.map ZN).map (· w0.heap.size))))) (hu : unturned ops l i (.inl t) = true)
    (hL : Dl L K) (hn : m < n1) (hm : m ≤ m2) (hK : K ≤ 1073741824) (hN : n1 ≤ 1048576) (ok : TkOk D L M z m K) (hk : kdAt l i = .val (ZN (tk D L M z m) w0.heap.size)) : Owed Tryz.prog ops Q l bx sl a0 n w0 i :=
  owe_callW ho hw hop hk (fun args w => by go_simp) fun vs B a w c => by
    rw [show (#[x0, x1, x2, x3] : Array Operand).map a.eval = #[a.eval x0, a.eval x1, a.eval x2, a.eval x3] from by simp]
    have e2 : a.eval x2 = a0.eval (.tmp t) := (h2 a0 n w0 vs B a w c).now
    have h2' : Hs w (Vv m L K) (a.eval x2) := by
      rw [e2]
      exact row_hs (c.box t _ (List.mem_of_getElem? hb) hu) (fun v w ys ho hc => vn_vv hL v w (row_lf (by decide) v w ys ho hc))
    exact taken_any c (h0 a0 n w0 vs B a w c).hs (h1 a0 n w0 vs B a w c) h2' (h3 a0 n w0 vs B a w c).hs hn hm hK hN ok
theorem owe_takenV {x0 x1 x2 x3 : Operand} {ts : Array TypeId} {n1 m m2 K : Nat} {D L M : List Int} {z : Int} (ho : ops[i]? = some o) (hw : Wants ops l bx sl i o) (hop : o.op = .call { callee := .value (.func 97), args := #[x0, x1, x2, x3], argTypes := ts })
    (h0 : Opnd ops l bx sl i x0 (Vv n1 D K)) (h1 : Opnd ops l bx sl i x1 (ZN z w0.heap.size)) (h2 : Opnd ops l bx sl i x2 (Vv m L K)) (h3 : Opnd ops l bx sl i x3 (Vv m2 M K))
    (hn : m < n1) (hm : m ≤ m2) (hK : K ≤ 1073741824) (hN : n1 ≤ 1048576) (ok : TkOk D L M z m K) (hk : kdAt l i = .val (ZN (tk D L M z m) w0.heap.size)) : Owed Tryz.prog ops Q l bx sl a0 n w0 i :=
  owe_callW ho hw hop hk (fun args w => by go_simp) fun vs B a w c => by
    rw [show (#[x0, x1, x2, x3] : Array Operand).map a.eval = #[a.eval x0, a.eval x1, a.eval x2, a.eval x3] from by simp]
    exact taken_any c (h0 a0 n w0 vs B a w c).hs (h1 a0 n w0 vs B a w c) (h2 a0 n w0 vs B a w c).hs (h3 a0 n w0 vs B a w c).hs hn hm hK hN ok
end

set_option maxHeartbeats 4000000 in
theorem left_w (w : World) (u0 u1 u2 : Value) (n0 nb x K : Nat) (D : List Int) (L Bm : List (List Int)) (R : List Int) (h0 : Hs w (SF [Vv (n0 + 1) D K, Mv n0 L K]) u0) (h1 : Hs w (Mv nb Bm K) u1) (h2 : Hs w (Vv x R K) u2) (hnb : n0 ≤ nb) (hn : n0 ≤ 1048000) (hx : x ≤ 1048576) (hK : K ≤ 500000000) (lL : L.length = n0) (lB : Bm.length = nb) (hLl : ∀ j, j < n0 → (L.getD j []).length = j) (hBl : ∀ j, j < n0 → (Bm.getD j []).length = x) (ok : LfOk D L Bm R n0 K) :
    Calls Tryz.prog 68 #[u0, u1, u2] w (Gives (TWO (VN n0 (lfL D L Bm R n0)) (ZN (tk D (lfL D L Bm R n0) (lfL D L Bm R n0) (dotR R R) n0))) w) := by
  refine calls_sta (sl := [(0, (SF [(Vv (n0 + 1) D K), (Mv n0 L K)])), (1, (Mv nb Bm K)), (2, (Vv x R K))]) Tryz.func68 rfl Tryz.ntmps68 (by simp) (args_cons rfl (h0) (args_cons rfl (h1) (args_cons rfl (h2) args_nil))) ?_
  intro a0 S0
  refine wp_stmt_seq [.new (.box 25 (SF [(Vv (n0 + 1) D K), (Mv n0 L K)])), .val (Is (.slice none 0 0)), .new (.box 28 zI)] [.inl 0, .inl 2] [.inr 1, .inr 2] follows S0 rfl (by kernel_rfl) ?_ ?_
  · refine ⟨⟨⟨trivial, ?_⟩, ?_⟩, ?_⟩
    · exact owe_box rfl wA rfl (oS 0 0) rfl (fun ρ w h => box_gso shp_sf2 ρ _ _ w h)
    · exact mC
    · exact owe_new rfl wA rfl rfl (fun ρ w => alloc_int ρ _ w)
  intro B1 a1 W1 (S1 : Sta w 52 [(3, (.box 25 (SF [(Vv (n0 + 1) D K), (Mv n0 L K)]))), (7, (.box 28 zI))] [(1, Mv nb Bm K), (2, Vv x R K)] _ _ _)
  refine wp_stmt_seq [.val (Part a1 3 1), .val (Mv n0 L K), .val (iV (n0 : Nat)), .new (.row 28 2 0 (CE 2 (((lfL D L Bm R 0).map ZN).map (· w.heap.size)))), .ref 3] [.inr 0, .inr 1, .inl 4] [.inr 0, .inr 1] follows S1 rfl (by kernel_rfl) ?_ ?_
  · refine ⟨⟨⟨⟨⟨trivial, ?_⟩, ?_⟩, ?_⟩, ?_⟩, ?_⟩
    · exact owe_part rfl wA rfl (k := 0) rfl (by kernel_rfl) rfl (fun ρ w b h => part_gso1 ρ _ _ w b 0 h)
    · exact owe_pload rfl wA rfl (oO 0 13) (k := 0) rfl (by kernel_rfl) rfl (fun ρ w b u h1 h2 h3 => ploadS rfl load1_mat ρ _ _ w b u h1 h2 h3)
    · exact owe_len rfl wA rfl (oO 1 14) ar_len Tryz.underlying23 rfl
    · exact owe_make0 rfl wA rfl Tryz.underlying22 infoInt (oO 2 15) ⟨by omega, by unfold maxLen; omega⟩ ce_nil rfl
    · exact owe_ref 3 rfl wA (Or.inr rfl) (by kernel_rfl) rfl rfl
  intro B2 a2 W2 (S2 : Sta w 52 [(3, (.box 25 (SF [(Vv (n0 + 1) D K), (Mv n0 L K)]))), (7, (.box 28 zI)), (8, (.row 28 2 0 (CE 2 (((lfL D L Bm R 0).map ZN).map (· w.heap.size)))))] [(1, Mv nb Bm K), (2, Vv x R K)] _ _ _)
  refine wp_seq ?_
  refine wp_stmt_seq [.val (Part a2 3 1), .val (Mv n0 L K), .val (iV (n0 : Nat)), .val (iV 0)] [.inr 0, .inr 1, .inr 2] [.inl 1, .inl 2, .inl 3, .inr 0, .inr 1] follows S2 rfl (by kernel_rfl) ?_ ?_
  · refine ⟨⟨⟨⟨trivial, ?_⟩, ?_⟩, ?_⟩, ?_⟩
    · exact owe_part rfl wA rfl (k := 0) rfl (by kernel_rfl) rfl (fun ρ w b h => part_gso1 ρ _ _ w b 0 h)
    · exact owe_pload rfl wA rfl (oO 0 17) (k := 0) rfl (by kernel_rfl) rfl (fun ρ w b u h1 h2 h3 => ploadS rfl load1_mat ρ _ _ w b u h1 h2 h3)
    · exact owe_len rfl wA rfl (oO 1 18) ar_len Tryz.underlying23 rfl
    · exact mC
  intro B3 a3 W3 (S3 : Sta w 52 [(3, (.box 25 (SF [(Vv (n0 + 1) D K), (Mv n0 L K)]))), (7, (.box 28 zI)), (8, (.row 28 2 0 (CE 2 (((lfL D L Bm R 0).map ZN).map (· w.heap.size)))))] [(18, Mv n0 L K), (19, iV (n0 : Nat)), (20, iV 0), (1, Mv nb Bm K), (2, Vv x R K)] _ _ _)
  refine wp_block ?_
  refine wp_loop_ghost (fun (k0 : Nat) a W => (k0 ≤ n0) ∧ ∃ Bq, Sta w 52 [(3, (.box 25 (SF [(Vv (n0 + 1) D K), (Mv n0 L K)]))), (7, (.box 28 zI)), (8, (.row 28 2 k0 (CE 2 (((lfL D L Bm R k0).map ZN).map (· w.heap.size)))))] [(18, Mv n0 L K), (19, iV (n0 : Nat)), (20, iV (k0 : Nat)), (1, Mv nb Bm K), (2, Vv x R K)] Bq a W) (fun (k0 : Nat) => n0 - k0) ?_ 0 ⟨Nat.zero_le _, B3, S3.sub [0, 1, 2] [0, 1, 2, 3, 4]⟩
  rintro k0 a4 W4 ⟨hcond, B4, S4⟩
  by_cases hlt : k0 < n0
  · have hl1 := hLl k0 hlt
    have hl2 := hBl k0 hlt
    refine wp_stmt_seq [kT] [.inr 0, .inr 1, .inr 2] [.inl 0, .inr 0, .inr 1, .inr 2, .inr 3, .inr 4] follows S4 rfl (by kernel_rfl) ?_ ?_
    · refine ⟨trivial, ?_⟩
      · exact b_lss_int_t wA (oS 2 20) (oS 1 19)
    intro B5 a5 W5 (S5 : Sta w 52 [(3, (.box 25 (SF [(Vv (n0 + 1) D K), (Mv n0 L K)]))), (7, (.box 28 zI)), (8, (.row 28 2 k0 (CE 2 (((lfL D L Bm R k0).map ZN).map (· w.heap.size)))))] [(21, bT), (18, Mv n0 L K), (19, iV (n0 : Nat)), (20, iV (k0 : Nat)), (1, Mv nb Bm K), (2, Vv x R K)] _ _ _)
    refine wp_seq ?_
    refine wp_cond_true (S5.bool 0 21 rfl) ?_
    refine wp_skip ?_
    refine thenN ?_
    refine wp_seq ?_
    refine wp_block ?_
    refine wp_stmt_seq [.val (iV (k0 : Nat)), .val (AtE 1 (Vv k0 (L.getD k0 []) K)), .val (Vv k0 (L.getD k0 []) K), .val (iV (k0 : Nat)), .val (Vv k0 (L.getD k0 []) K)] [.inr 0, .inr 1, .inr 2] [.inl 3, .inl 4, .inr 1, .inr 2, .inr 3, .inr 4, .inr 5] follows S5 rfl (by kernel_rfl) ?_ ?_
    · refine ⟨⟨⟨⟨⟨trivial, ?_⟩, ?_⟩, ?_⟩, ?_⟩, ?_⟩
      · exact mS 3 20
      · exact owe_aindex rfl wA rfl idx_rows (oS 1 18) (oS 3 20) (by have q := vv_at (A := L) (K := K) (k := k0) (by omega); rw [hl1] at q; exact q) rfl
      · exact owe_aload rfl wA rfl ldr_row1 (by decide) cel_vv (oO 1 23) rfl
      · exact mO 0 22
      · exact mO 2 24
    intro B6 a6 W6 (S6 : Sta w 52 [(3, (.box 25 (SF [(Vv (n0 + 1) D K), (Mv n0 L K)]))), (7, (.box 28 zI)), (8, (.row 28 2 k0 (CE 2 (((lfL D L Bm R k0).map ZN).map (· w.heap.size)))))] [(9, iV (k0 : Nat)), (10, Vv k0 (L.getD k0 []) K), (18, Mv n0 L K), (19, iV (n0 : Nat)), (20, iV (k0 : Nat)), (1, Mv nb Bm K), (2, Vv x R K)] _ _ _)
    refine wp_stmt_seq [.val (Vv x R K), .val (Mv nb Bm K), .val (iV (k0 : Nat)), .val (AtE 1 (Vv x (Bm.getD k0 []) K)), .val (Vv x (Bm.getD k0 []) K), .val ((TWO (ZN (dotR R (Bm.getD k0 []))) (IS (.int .i64 0))) w.heap.size), .val ((TWO (ZN (dotR R (Bm.getD k0 []))) (IS (.int .i64 0))) w.heap.size), .val ((ZN (dotR R (Bm.getD k0 []))) w.heap.size), .val (iV 0), .new (.box 28 zI), .put (.inr 9) (.box 28 ((ZN (dotR R (Bm.getD k0 []))) w.heap.size)), .val (iV 0)] [.inr 0, .inr 1, .inr 2, .inl 9] [.inr 1, .inr 2, .inr 3, .inr 4, .inr 5, .inr 6] follows S6 rfl (by kernel_rfl) ?_ ?_
    · repeat' refine And.intro ?_ ?_
      · trivial
      · exact mS 6 2
      · exact mS 5 1
      · exact mS 0 9
      · exact owe_aindex rfl wA rfl idx_rows (oO 1 27) (oO 2 28) (by have q := vv_at (A := Bm) (K := K) (k := k0) (by omega); rw [hl2] at q; exact q) rfl
      · exact owe_aload rfl wA rfl ldr_row1 (by decide) cel_vv (oO 3 29) rfl
      · exact ch2 wA (qO 0 26 rfl) (qO 4 30 rfl) (fresh_two (fresh_zn _) (fresh_is _)) (fun w u v h1 h2 => dot_y w u v x K K R (Bm.getD k0 []) h1 h2 (by omega) (by omega))
      · exact mO 5 31
      · exact e20 wA (oO 6 25)
      · exact e21 wA (oO 6 25)
      · exact owe_new rfl wA rfl rfl (fun ρ w => alloc_int ρ _ w)
      · exact owe_put 9 rfl wA rfl (by kernel_rfl) rfl (oO 7 32) (stores_of strct_int shp_z0 shp_zn) rfl
      · exact mO 8 33
    intro B7 a7 W7 (S7 : Sta w 52 [(3, (.box 25 (SF [(Vv (n0 + 1) D K), (Mv n0 L K)]))), (7, (.box 28 zI)), (8, (.row 28 2 k0 (CE 2 (((lfL D L Bm R k0).map ZN).map (· w.heap.size))))), (11, (.box 28 ((ZN (dotR R (Bm.getD k0 []))) w.heap.size)))] [(10, Vv k0 (L.getD k0 []) K), (18, Mv n0 L K), (19, iV (n0 : Nat)), (20, iV (k0 : Nat)), (1, Mv nb Bm K), (2, Vv x R K)] _ _ _)
    refine wp_stmt [.val (Is (a7.eval (.tmp 8))), .val (Part a7 3 0), .val (Vv (n0 + 1) D K), .val ((ZN (dotR R (Bm.getD k0 []))) w.heap.size), .val (Is (a7.eval (.tmp 8))), .val (Vv k0 (L.getD k0 []) K), .val ((ZN (tk D (lfL D L Bm R k0) (L.getD k0 []) (dotR R (Bm.getD k0 [])) k0)) w.heap.size), .val (Sng 28 2 ((ZN (tk D (lfL D L Bm R k0) (L.getD k0 []) (dotR R (Bm.getD k0 [])) k0)) w.heap.size) w.heap.size), .mov 8 (.row 28 2 (k0 + 1) (CE 2 (((lfL D L Bm R (k0 + 1)).map ZN).map (· w.heap.size)))), .ref 8] [.inr 0, .inr 1, .inl 9] [.inr 1, .inr 2, .inr 3, .inr 4, .inr 5] follows S7 rfl (by kernel_rfl) ?_ ?_
    · repeat' refine And.intro ?_ ?_
      · trivial
      · exact owe_same rfl wA (Or.inl rfl) (by kernel_rfl) rfl
      · exact owe_part rfl wA rfl (k := 0) rfl (by kernel_rfl) rfl (fun ρ w b h => part_gso0 ρ _ _ w b 0 h)
      · exact owe_pload rfl wA rfl (oO 1 35) (k := 0) rfl (by kernel_rfl) rfl (fun ρ w b u h1 h2 h3 => ploadS rfl load1_vec ρ _ _ w b u h1 h2 h3)
      · exact lod 3 wA (loads_of strct_int shp_zn)
      · exact owe_same rfl wA (Or.inl rfl) (by kernel_rfl) rfl
      · exact mS 0 10
      · exact owe_takenR (t := 8) (kk := 2) rfl wA rfl (oO 2 36) (oO 3 37) (oO 4 38) (oO 5 39) rfl (by kernel_rfl) (lf_dl ok k0 (by omega)) (by omega) (by omega) (by omega) (by omega) (ok.row k0 hlt) rfl
      · exact owe_b1 rfl wA rfl bld_int (oO 6 40) (cel_shp (by decide) shp_zn) rfl
      · exact owe_append rfl wA rfl (oO 0 34) (k := 2) rfl (by kernel_rfl) ((oO 7 41).imp b1_src) einf_int Tryz.underlying22 (by decide) ⟨by unfold maxLen; omega, by omega⟩ rfl (fun xs ys w h1 h2 => by simp only [lfL, List.map_append, List.map_cons, List.map_nil]; exact ce_append _ _ _ h1 h2)
      · exact owe_ref 8 rfl wA (Or.inr rfl) (by kernel_rfl) rfl rfl
    intro B8 a8 W8 (S8 : Sta w 52 [(3, (.box 25 (SF [(Vv (n0 + 1) D K), (Mv n0 L K)]))), (7, (.box 28 zI)), (8, (.row 28 2 (k0 + 1) (CE 2 (((lfL D L Bm R (k0 + 1)).map ZN).map (· w.heap.size)))))] [(18, Mv n0 L K), (19, iV (n0 : Nat)), (20, iV (k0 : Nat)), (1, Mv nb Bm K), (2, Vv x R K)] _ _ _)
    refine inBlkN ?_
    refine thenN ?_
    refine wp_stmt [.val (iV (k0 + 1 : Nat)), .val (iV (k0 + 1 : Nat))] [.inr 0, .inr 1, .inr 2] [.inl 1, .inr 0, .inr 1, .inr 3, .inr 4] follows S8 rfl (by kernel_rfl) ?_ ?_
    · refine ⟨⟨trivial, ?_⟩, ?_⟩
      · exact b_add_int wA (oS 2 20) (opnd_const _)
      · exact mO 0 43
    intro B9 a9 W9 (S9 : Sta w 52 [(3, (.box 25 (SF [(Vv (n0 + 1) D K), (Mv n0 L K)]))), (7, (.box 28 zI)), (8, (.row 28 2 (k0 + 1) (CE 2 (((lfL D L Bm R (k0 + 1)).map ZN).map (· w.heap.size)))))] [(20, iV (k0 + 1 : Nat)), (18, Mv n0 L K), (19, iV (n0 : Nat)), (1, Mv nb Bm K), (2, Vv x R K)] _ _ _)
    refine thenN ?_
    exact ⟨k0 + 1, ⟨by omega, B9, S9.sub [0, 1, 2] [1, 2, 0, 3, 4]⟩, by omega⟩
  · have ek : k0 = n0 := by omega
    rw [ek] at S4
    refine wp_stmt_seq [kF] [.inr 0, .inr 1, .inr 2] [.inl 0, .inr 0, .inr 1, .inr 2, .inr 3, .inr 4] follows S4 rfl (by kernel_rfl) ?_ ?_
    · refine ⟨trivial, ?_⟩
      · exact b_lss_int_f wA (oS 2 20) (oS 1 19)
    intro B5 a5 W5 (S5 : Sta w 52 [(3, (.box 25 (SF [(Vv (n0 + 1) D K), (Mv n0 L K)]))), (7, (.box 28 zI)), (8, (.row 28 2 n0 (CE 2 (((lfL D L Bm R n0).map ZN).map (· w.heap.size)))))] [(21, bF), (18, Mv n0 L K), (19, iV (n0 : Nat)), (20, iV (n0 : Nat)), (1, Mv nb Bm K), (2, Vv x R K)] _ _ _)
    refine wp_seq ?_
    refine wp_cond_false (S5.bool 0 21 rfl) ?_
    refine wp_exit ?_
    refine thenX ?_
    refine thenX ?_
    refine inBlkE ?_
    refine thenN ?_
    obtain ⟨B6, S6⟩ : ∃ Bq, Sta w 52 [(3, (.box 25 (SF [(Vv (n0 + 1) D K), (Mv n0 L K)]))), (7, (.box 28 zI))] [(8, ((VN n0 (lfL D L Bm R n0)) w.heap.size)), (21, bF), (18, Mv n0 L K), (19, iV (n0 : Nat)), (20, iV (n0 : Nat)), (1, Mv nb Bm K), (2, Vv x R K)] Bq a5 W5 := ⟨_, S5.freeze 2 rfl (by simp) (fun v w' xs ho hc => row_lf (by decide) v w' xs ho hc)⟩
    obtain ⟨a6, W6, e1, e2⟩ : ∃ a W, a5 = a ∧ W5 = W := ⟨_, _, rfl, rfl⟩
    rw [e1, e2] at S6 ⊢
    clear e1 e2
    refine wp_stmt_seq [.val ((VN n0 (lfL D L Bm R n0)) w.heap.size), .val (Part a6 3 0), .val (Vv (n0 + 1) D K), .val (Vv x R K), .val ((ZN (dotR R R)) w.heap.size), .val ((VN n0 (lfL D L Bm R n0)) w.heap.size), .val ((VN n0 (lfL D L Bm R n0)) w.heap.size), .val ((ZN (tk D (lfL D L Bm R n0) (lfL D L Bm R n0) (dotR R R) n0)) w.heap.size), .val ((VN n0 (lfL D L Bm R n0)) w.heap.size), .put (.inl 7) (.box 28 ((ZN (tk D (lfL D L Bm R n0) (lfL D L Bm R n0) (dotR R R) n0)) w.heap.size))] [.inr 0, .inr 1] [.inl 8, .inr 0, .inr 2, .inr 3, .inr 4, .inr 5, .inr 6] follows S6 rfl (by kernel_rfl) ?_ ?_
    · repeat' refine And.intro ?_ ?_
      · trivial
      · exact mS 0 8
      · exact owe_part rfl wA rfl (k := 0) rfl (by kernel_rfl) rfl (fun ρ w b h => part_gso0 ρ _ _ w b 0 h)
      · exact owe_pload rfl wA rfl (oO 1 45) (k := 0) rfl (by kernel_rfl) rfl (fun ρ w b u h1 h2 h3 => ploadS rfl load1_vec ρ _ _ w b u h1 h2 h3)
      · exact mS 6 2
      · exact ch1 wA (qO 3 47 rfl) (fresh_zn _) (fun w u h1 => norm_w w u x K R h1 (by omega) (by omega))
      · exact mS 0 8
      · exact mS 0 8
      · exact owe_takenV rfl wA rfl (oO 2 46) (oO 4 48) ((oO 5 49).imp (vn_vv (lf_dl ok n0 (Nat.le_refl _)))) ((oO 6 50).imp (vn_vv (lf_dl ok n0 (Nat.le_refl _)))) (by omega) (by omega) (by omega) (by omega) ok.last rfl
      · exact mO 0 44
      · exact owe_set rfl wA rfl (k := 1) rfl (by kernel_rfl) (oO 7 51) (stores_of strct_int shp_z0 shp_zn) rfl
    intro B7 a7 W7 (S7 : Sta w 52 [(3, (.box 25 (SF [(Vv (n0 + 1) D K), (Mv n0 L K)]))), (7, (.box 28 ((ZN (tk D (lfL D L Bm R n0) (lfL D L Bm R n0) (dotR R R) n0)) w.heap.size)))] [(6, ((VN n0 (lfL D L Bm R n0)) w.heap.size)), (8, ((VN n0 (lfL D L Bm R n0)) w.heap.size)), (18, Mv n0 L K), (19, iV (n0 : Nat)), (20, iV (n0 : Nat)), (1, Mv nb Bm K), (2, Vv x R K)] _ _ _)
    refine wp_ret ?_
    exact end_two S7 rfl (res_tmp S7 0 6 rfl) (res_cell S7 1 7 rfl strct_int shp_zn)

end Go.Proofs.YtkiholgfamfgeaaGreat
