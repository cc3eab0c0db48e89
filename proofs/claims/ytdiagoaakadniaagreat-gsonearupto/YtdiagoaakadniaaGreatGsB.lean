import Derived.Test.YtdiagoaakadniaaGreatGsA
import Derived.Test.YtdiagoaakadniaaGreatSetV
import Derived.Test.YtdiagoaakadniaaGreatSetG
import Derived.Test.YtdiagoaakadniaaGreatVcA
import Derived.Test.YtdiagoaakadniaaGreatSetQ
import Derived.Test.YtdiagoaakadniaaGreatSetH
namespace Go.Proofs.YtdiagoaakadniaaGreat
open Go Go.RowKit Nt
set_option linter.unusedSimpArgs false
set_option linter.unusedVariables false
set_option maxRecDepth 20000
set_option maxHeartbeats 16000000
abbrev zG : Pr := Is (.agg #[.slice none 0 0, .slice none 0 0])
theorem ybl : Strct 42 2 := ⟨⟨_, Tryz.underlying42, rfl⟩, by kernel_rfl⟩
theorem yb2 : Shp 2 (Is (.agg #[.slice none 0 0, .slice none 0 0])) := fun u w h => ⟨_, h, rfl, by simp [Value.oneCell']⟩
theorem yb1 {p q : Pr} : Shp 2 (SF [p, q]) := shp_sf (ps := [p, q])
theorem yl6 {s : Bool} {p : Option Addr} {n c : Nat} : Shp 2 (Is (.agg #[.bool s, .slice p n c])) := fun u w h => ⟨_, h, rfl, by simp [Value.oneCell']⟩
theorem ycv (ρ : Operand → Value) (o : Oper) (w : World) : (execOp ρ { o with op := .alloc 42 }).run Tryz.prog w = .ok (.value (.pointer (some ⟨w.heap.size, 0, none⟩))) (w.alloc (.cells (Value.agg #[.slice none 0 0, .slice none 0 0]).cells 42 (0, 0))) := by
  unfold execOp
  go_simp
theorem yn8 {φ : Pr} (h : Shp 2 φ) (ρ : Operand → Value) (o : Oper) (x : Operand) (w : World) (hφ : φ (ρ x) w) : (execOp ρ { o with op := .box 42 x }).run Tryz.prog w = .ok (.value (.pointer (some ⟨w.heap.size, 0, none⟩))) (w.alloc (.cells (ρ x).cells 42 (0, 0))) := by
  obtain ⟨cs, e, h1, h2⟩ := h _ _ hφ
  unfold execOp
  rw [e]
  go_simp
theorem ydz (ρ : Operand → Value) (o : Oper) (x : Operand) (w : World) (b f : Nat) (h : ρ x = .pointer (some ⟨b, f, none⟩)) : (execOp ρ { o with op := .fieldAddr 42 x 0 }).run Tryz.prog w = .ok (.value (.pointer (some ⟨b, f, none⟩))) w := by
  unfold execOp
  go_simp
theorem yed (ρ : Operand → Value) (o : Oper) (x : Operand) (w : World) (b f : Nat) (h : ρ x = .pointer (some ⟨b, f, none⟩)) : (execOp ρ { o with op := .fieldAddr 42 x 1 }).run Tryz.prog w = .ok (.value (.pointer (some ⟨b, f + 1, none⟩))) w := by
  unfold execOp
  go_simp
theorem ploadS {ps : List Pr} {χ : Pr} {f : Nat} {T T' : TypeId} (hp : ps[f]? = some χ) (hL : Load1 T') (ρ : Operand → Value) (o : Oper) (x : Operand) (w : World) (b : Nat) (u : Value) (hφ : SF ps u w) (hx : ρ x = .pointer (some ⟨b, f, none⟩)) (hb : w.heap[b]? = some (.cells u.cells T (0, 0))) :
  ∃ v, (execOp ρ { o with op := .load T' x }).run Tryz.prog w = .ok (.value v) w ∧ ∀ w', SF ps u w' → χ v w' := by
 obtain ⟨cs, rfl, h1, h2, h3⟩ := hφ
 obtain ⟨v, hv, _⟩ := h3 f χ hp
 refine ⟨v, hL ρ w o x b f v hx (yl2 hb hv), fun w' h' => ?_⟩
 obtain ⟨_, _, h4⟩ := h'.get
 obtain ⟨v', hv', hχ⟩ := h4 f χ hp
 rw [hv] at hv'
 cases hv'
 exact hχ
theorem Sta.reboxS {w0 W : World} {n : Nat} {bx : Bxs} {sl : List (Tmp × Pr)} {B : Nat → Prop} {a : Act} (S : Sta w0 n bx sl B a W) (k : Nat) {t : Nat} {T : TypeId} {φ ψ : Pr} (h : bx[k]? = some (t, .box T φ)) (hi : ∀ v w, φ v w → ψ v w) : Sta w0 n (bx.set k (t, .box T ψ)) sl B a W := by
 have hm := List.mem_of_getElem? h
 have key : ∀ x ∈ bx.set k (t, .box T ψ), ∃ y ∈ bx, y.1 = x.1 ∧ (∀ v b, x.2.set v b ↔ y.2.set v b) ∧ (y.2.at w0.heap.size B W (a.eval (.tmp x.1)) → x.2.at w0.heap.size B W (a.eval (.tmp x.1))) := fun x hx => by
  rcases List.mem_or_eq_of_mem_set hx with h1 | rfl
  ·exact ⟨x, h1, rfl, fun _ _ => Iff.rfl, id⟩
  ·exact ⟨_, hm, rfl, fun _ _ => Iff.rfl, fun ⟨b, u, h1, h2, h3, h4⟩ => ⟨b, u, h1, h2, h3, h4.imp (fun w => hi u w)⟩⟩
 refine ⟨S.ent, S.bnd, S.siz, S.dfr, fun x hx => ?_, fun x hx y hy b hbx hby => ?_, S.slt⟩
 ·obtain ⟨y, hy, e, _, h2⟩ := key x hx
  exact h2 (by rw [← e]; exact S.box y hy)
 ·obtain ⟨x', hx', ex, sx, _⟩ := key x hx
  obtain ⟨y', hy', ey, sy, _⟩ := key y hy
  have := S.sep x' hx' y' hy' b (by rw [ex]; exact (sx _ _).1 hbx) (by rw [ey]; exact (sy _ _).1 hby)
  rw [← ex, ← ey, this]
section
variable {ops : Array Oper} {l : List Kd} {bx : Bxs} {sl : List (Tmp × Pr)} {i : Nat} {o : Oper} {Q : Exit → Act → World → Prop} {a0 : Act} {n : Nat} {w0 : World}
theorem ygr {χ : Pr} {f : FuncId} {xs : Array Operand} {ts : Array TypeId} (ho : ops[i]? = some o) (hw : Wants ops l bx sl i o) (hop : o.op = .call { callee := .value (.func f), args := xs, argTypes := ts }) (hk : kdAt l i = .val χ)
    (hcf : ∀ args w, (callFunc f args).run Tryz.prog w = .ok (.enter f args) w)
    (h : ∀ vs B a w, Ctx ops l bx sl a0 n w0 i vs B a w → Calls Tryz.prog f (xs.map a.eval) w fun e w' => ∃ r, e = .returned r ∧ Below w.heap.size w w' ∧ Has B w' χ r) : Owed Tryz.prog ops Q l bx sl a0 n w0 i := fun vs B a w c o' ho' => by
  obtain rfl : o = o' := Option.some.inj (ho.symm.trans ho')
  have hr : (execOp a.eval o).run Tryz.prog w = .ok (.enter f (xs.map a.eval)) w := by
    unfold execOp
    rw [hop]
    have hf : a.eval (.func f) = .func (.func f) #[] #[] := rfl
    generalize a.eval = ρ at hf
    go_simp
  simp only [wpOp, ho]
  rw [if_pos (hw a0 n w0 vs B a w c)]
  refine Or.inl ?_
  unfold Oper.wp
  rw [hr, Oper.upon_enter]
  refine (h vs B a w c).mono ?_
  rintro e w' ⟨v, rfl, hb, hψ⟩
  refine ⟨v, rfl, ?_⟩
  rw [hk]
  exact ⟨hb, hψ⟩
theorem yip {ψ : Nat → Pr} {vs : Nat → Value} {B : Nat → Prop} {a : Act} {w : World} (hF : Fresh ψ) (c : Ctx ops l bx sl a0 n w0 i vs B a w) {e : Ending} {w' : World} (h : Gives ψ w e w') : ∃ r, e = .returned r ∧ Below w.heap.size w w' ∧ Has B w' (ψ w0.heap.size) r := by
 obtain ⟨v, rfl, hb, hψ⟩ := h
 exact ⟨v, rfl, hb, fun w'' e'' => hF.mono _ _ _ _ c.lo (hF.ev _ _ _ _ B (fun k hk => (c.bnd k hk).2) hψ e'')⟩
theorem ye9 (ho : ops[i]? = some o) (hw : Wants ops l bx sl i o) (hop : o.op = .build 42 #[]) (hk : kdAt l i = .val zG) : Owed Tryz.prog ops Q l bx sl a0 n w0 i :=
  yhr ho hw hk fun vs B a w c => by
    unfold execOp
    rw [hop]
    go_simp
theorem owe_buildG {x : Operand} {p : Option Addr} {m c : Nat} (ho : ops[i]? = some o) (hw : Wants ops l bx sl i o) (hop : o.op = .build 42 #[(0, x)]) (hx : Opnd ops l bx sl i x (Is (.slice p m c))) (hk : kdAt l i = .val (SF [Is (.slice p m c), Is (.slice none 0 0)])) : Owed Tryz.prog ops Q l bx sl a0 n w0 i :=
  ycx ho hw hk fun vs B a w cx => by
    have hxv : a.eval x = .slice p m c := (hx a0 n w0 vs B a w cx).now
    refine ⟨.agg #[.slice p m c, .slice none 0 0], ?_, fun w' ev => ⟨_, rfl, rfl, by simp [Value.oneCell'], fun f q hq => ?_⟩⟩
    · unfold execOp
      rw [hop]
      generalize a.eval = ρ at hxv
      go_simp
    · match f, hq with
      | 0, hq => simp at hq; subst hq; exact ⟨_, rfl, rfl⟩
      | 1, hq => simp at hq; subst hq; exact ⟨_, rfl, rfl⟩
end
theorem ydc {zs : List Int} {k : Nat} (h : Dl zs k) (i : Nat) : (digs (zs.getD i 0).natAbs).length ≤ k := by
 rw [List.getD_eq_getElem?_getD]
 cases e : zs[i]? with
 | none => show (digs (0 : Int).natAbs).length ≤ k; rw [show (0 : Int).natAbs = 0 from rfl, yc9]; exact Nat.zero_le _
 | some z => exact h i z e
theorem yc1 {A B : Int} {k : Nat} (h1 : (digs A.natAbs).length ≤ k) (h2 : (digs B.natAbs).length ≤ k) : (digs (A - B).natAbs).length ≤ k + 1 :=
 Nat.le_trans (yai (by omega : (A - B).natAbs ≤ A.natAbs + B.natAbs)) (yej h1 h2)
theorem yhj {D : List Int} {K k : Nat} (h : k < D.length) : (D.map (fun z => Zv z K))[k]? = some (Zv (D.getD k 0) K) := by
 rw [List.getElem?_map, List.getElem?_eq_getElem h, List.getD_eq_getElem?_getD, List.getElem?_eq_getElem h]
 rfl
theorem yda {A : List (List Int)} {K k : Nat} (h : k < A.length) : (A.map (fun zs => Vv zs.length zs K))[k]? = some (Vv (A.getD k []).length (A.getD k []) K) := by
 rw [List.getElem?_map, List.getElem?_eq_getElem h, List.getD_eq_getElem?_getD, List.getElem?_eq_getElem h]
 rfl
def tk (D L M : List Int) (z : Int) : Nat → Int
 | 0 => z
 | k + 1 => fl (D.getD (k + 1) 0 * tk D L M z k - L.getD k 0 * M.getD k 0) (D.getD k 0)
structure TkOk (D L M : List Int) (z : Int) (m K : Nat) : Prop where
 ne : ∀ k, k < m → D.getD k 0 ≠ 0
 ex : ∀ k, k < m → rm (D.getD (k + 1) 0 * tk D L M z k - L.getD k 0 * M.getD k 0) (D.getD k 0) = 0
 dl : ∀ k, k ≤ m → (digs (tk D L M z k).natAbs).length ≤ K
def TkP (D L M : List Int) (z : Int) (K lo : Nat) : Nat → Pr
 | 0 => Zv z K
 | k + 1 => ZN (tk D L M z (k + 1)) lo
theorem tkp_zv {D L M : List Int} {z : Int} {K lo m k : Nat} (ok : TkOk D L M z m K) (hk : k ≤ m) : ∀ v w, TkP D L M z K lo k v w → Zv (tk D L M z k) K v w := fun v w h => by
 cases k with
 | zero => exact h
 | succ k => exact ycy (ok.dl _ hk) v w h
theorem tkp_zn {D L M : List Int} {z : Int} {K lo k : Nat} (hk : 0 < k) : ∀ v w, TkP D L M z K lo k v w → ZN (tk D L M z k) lo v w := fun v w h => by
 cases k with
 | zero => omega
 | succ k => exact h
abbrev yhs (s : Bool) (p : Option Addr) (nn : Nat) (c : Nat) : Rk := .box 26 (Is (.agg #[.bool s, .slice p nn c]))
theorem taken_0 (w : World) (u0 u2 u3 : Value) (s : Bool) (p : Option Addr) (nn c K : Nat) (L : List Int) (h2 : Hs w (Vv 0 L K) u2) :
  Calls Tryz.prog 43 #[u0, .agg #[.bool s, .slice p nn c], u2, u3] w (Gives (IS (.agg #[.bool s, .slice p nn c])) w) := by
 refine yam (sl := [(0, (fun _ _ => True)), (1, (Is (.agg #[.bool s, .slice p nn c]))), (2, (Vv 0 L K)), (3, (fun _ _ => True))]) Tryz.func43 rfl Tryz.ntmps43 (by simp) (yab rfl (fun _ _ => trivial) (yab rfl (ygn _) (yab rfl (h2) (yab rfl (fun _ _ => trivial) yaq)))) ?_
 intro a0 S0
 refine wq [.new (yhs s p nn c), .new (.box 26 zI)] [.inl 0, .inl 1] [.inr 0, .inr 2, .inr 3] S0 ?_ ?_
 ·apply jj2
  ·exact ycr rfl wA rfl (oS 1 1) rfl (fun ρ w h => yg3 yl6 ρ _ _ w h)
  ·exact yat rfl wA rfl rfl (fun ρ w => ybi ρ _ w)
 intro _ a1 _ (S1 : Sta w 43 [(5, (yhs s p nn c)), (8, (.box 26 zI))] [(0, (fun _ _ => True)), (2, Vv 0 L K), (3, (fun _ _ => True))] _ _ _)
 refine wp_seq ?_
 refine wq [.val (Vv 0 L K), .val (iV (0 : Nat)), .val (iV 0)] [.inr 0, .inr 1] [.inl 1, .inl 2, .inr 0, .inr 1, .inr 2] S1 ?_ ?_
 ·apply jj3
  ·exact mS 1 2
  ·exact yal rfl wA rfl (oO 0 10) yaw Tryz.underlying39 rfl
  ·exact mC
 intro B2 a2 _ (S2 : Sta w 43 [(5, (yhs s p nn c)), (8, (.box 26 zI))] [(11, iV (0 : Nat)), (12, iV 0), (0, (fun _ _ => True)), (2, Vv 0 L K), (3, (fun _ _ => True))] _ _ _)
 refine wp_block ?_
 refine yan (fun (k0 : Nat) a W => (k0 = 0) ∧ ∃ Bq, Sta w 43 [(5, (yhs s p nn c)), (8, (.box 26 zI))] [(11, iV (0 : Nat)), (12, iV (k0 : Nat)), (0, (fun _ _ => True)), (2, Vv 0 L K), (3, (fun _ _ => True))] Bq a W) (fun (k0 : Nat) => 0) ?_ 0 ⟨rfl, B2, S2.sub [0, 1] [0, 1, 2, 3, 4]⟩
 rintro k0 a3 _ ⟨hcond, _, S3⟩
 ·skip
  refine wq [kF] [.inr 0, .inr 1] [.inl 0, .inr 0, .inr 1, .inr 2, .inr 3, .inr 4] S3 ?_ ?_
  ·apply jj1
   ·exact yaz wA (oS 1 12) (oS 0 11)
  intro _ a4 _ (S4 : Sta w 43 [(5, (yhs s p nn c)), (8, (.box 26 zI))] [(13, bF), (11, iV (0 : Nat)), (12, iV (k0 : Nat)), (0, (fun _ _ => True)), (2, Vv 0 L K), (3, (fun _ _ => True))] _ _ _)
  refine wp_seq (wp_cond_false (S4.bool 0 13 rfl) (wp_exit (thenX (thenX (inBlkE (thenN ?_))))))
  refine wq [.val (Is (.agg #[.bool s, .slice p nn c])), .put (.inl 8) (yhs s p nn c)] [.inr 0, .inr 1] [.inr 1, .inr 2, .inr 3, .inr 4, .inr 5] S4 ?_ ?_
  ·apply jj2
   ·exact lod 0 wA (yau yaj yl6)
   ·exact ya7 rfl wA rfl (k := 1) rfl (by kernel_rfl) (oO 0 42) (yaf yaj ycn yl6) rfl
  intro _ a5 _ (S5 : Sta w 43 [(5, (yhs s p nn c)), (8, (yhs s p nn c))] [(11, iV (0 : Nat)), (12, iV (k0 : Nat)), (0, (fun _ _ => True)), (2, Vv 0 L K), (3, (fun _ _ => True))] _ _ _)
  refine wp_ret ?_
  exact ybe S5 rfl (ybb S5 1 8 rfl yaj yl6)
abbrev yp0 (w : World) (D : List Int) (L : List Int) (M : List Int) (z : Int) (k0 : Nat) : Pr := (ZN (fl (((D.getD (k0 + 1) 0) * (tk D L M z k0)) - ((L.getD k0 0) * (M.getD k0 0))) (D.getD k0 0))) w.heap.size
abbrev yf4  : Rk := .box 26 zI
abbrev yp1 (w : World) (D : List Int) (L : List Int) (M : List Int) (z : Int) (k0 : Nat) : Pr := (ZN (((D.getD (k0 + 1) 0) * (tk D L M z k0)) - ((L.getD k0 0) * (M.getD k0 0)))) w.heap.size
theorem taken_s (w : World) (u0 u1 u2 u3 : Value) (n1 m m2 K : Nat) (D L M : List Int) (z : Int) (h0 : Hs w (Vv n1 D K) u0) (h1 : Hs w (Zv z K) u1) (h2 : Hs w (Vv m L K) u2) (h3 : Hs w (Vv m2 M K) u3) (hn : m < n1) (hm : m ≤ m2) (h0m : 0 < m) (hK : K ≤ 1073741824) (hN : n1 ≤ 1048576) (ok : TkOk D L M z m K) :
  Calls Tryz.prog 43 #[u0, u1, u2, u3] w (Gives (ZN (tk D L M z m)) w) := by
 have lD := yhy h0.now
 have lL := yhy h2.now
 have lM := yhy h3.now
 refine yam (sl := [(0, (Vv n1 D K)), (1, (Zv z K)), (2, (Vv m L K)), (3, (Vv m2 M K))]) Tryz.func43 rfl Tryz.ntmps43 (by simp) (yab rfl (h0) (yab rfl (h1) (yab rfl (h2) (yab rfl (h3) yaq)))) ?_
 intro a0 S0
 refine wq [.new (.box 26 (Zv z K)), .new (yf4)] [.inl 0, .inl 1] [.inr 0, .inr 2, .inr 3] S0 ?_ ?_
 ·apply jj2
  ·exact ycr rfl wA rfl (oS 1 1) rfl (fun ρ w h => yg3 ybc ρ _ _ w h)
  ·exact yat rfl wA rfl rfl (fun ρ w => ybi ρ _ w)
 intro _ a1 _ (S1 : Sta w 43 [(5, (.box 26 (Zv z K))), (8, (yf4))] [(0, Vv n1 D K), (2, Vv m L K), (3, Vv m2 M K)] _ _ _)
 refine wp_seq ?_
 refine wq [.val (Vv m L K), .val (iV (m : Nat)), .val (iV 0)] [.inr 0, .inr 1] [.inl 1, .inl 2, .inr 0, .inr 1, .inr 2] S1 ?_ ?_
 ·apply jj3
  ·exact mS 1 2
  ·exact yal rfl wA rfl (oO 0 10) yaw Tryz.underlying39 rfl
  ·exact mC
 intro B2 a2 _ (S2 : Sta w 43 [(5, (.box 26 (Zv z K))), (8, (yf4))] [(11, iV (m : Nat)), (12, iV 0), (0, Vv n1 D K), (2, Vv m L K), (3, Vv m2 M K)] _ _ _)
 refine wp_block ?_
 refine yan (fun (k0 : Nat) a W => (k0 ≤ m) ∧ ∃ Bq, Sta w 43 [(5, (.box 26 (TkP D L M z K w.heap.size k0))), (8, (yf4))] [(11, iV (m : Nat)), (12, iV (k0 : Nat)), (0, Vv n1 D K), (2, Vv m L K), (3, Vv m2 M K)] Bq a W) (fun (k0 : Nat) => m - k0) ?_ 0 ⟨Nat.zero_le _, B2, S2.sub [0, 1] [0, 1, 2, 3, 4]⟩
 rintro k0 a3 _ ⟨hcond, _, S3⟩
 by_cases hlt : k0 < m
 ·have hq0 := ok.dl k0 (by omega)
  have hD1 := yjq h0.now
  have hL1 := yjq h2.now
  have hM1 := yjq h3.now
  have hq1 : (digs ((D.getD (k0 + 1) 0) * (tk D L M z k0)).natAbs).length ≤ 2 * K := by rw [Int.natAbs_mul]; exact Nat.le_trans (yap (ydc hD1 _) hq0) (by omega)
  have hq2 : (digs ((L.getD k0 0) * (M.getD k0 0)).natAbs).length ≤ 2 * K := by rw [Int.natAbs_mul]; exact Nat.le_trans (yap (ydc hL1 _) (ydc hM1 _)) (by omega)
  have hq3 : (digs (((D.getD (k0 + 1) 0) * (tk D L M z k0)) - ((L.getD k0 0) * (M.getD k0 0))).natAbs).length ≤ 2 * K + 1 := yc1 hq1 hq2
  have S3 := S3.reboxS 0 rfl (tkp_zv ok (by omega))
  refine wq [kT] [.inr 0, .inr 1] [.inl 0, .inr 0, .inr 1, .inr 2, .inr 3, .inr 4] S3 ?_ ?_
  ·apply jj1
   ·exact yar wA (oS 1 12) (oS 0 11)
  intro B4 a4 W4 (S4 : Sta w 43 [(5, (.box 26 (Zv (tk D L M z k0) K))), (8, (yf4))] [(13, bT), (11, iV (m : Nat)), (12, iV (k0 : Nat)), (0, Vv n1 D K), (2, Vv m L K), (3, Vv m2 M K)] _ _ _)
  refine wp_seq (wp_cond_true (S4.bool 0 13 rfl) (wp_skip (thenN (wp_seq (wp_block ?_)))))
  refine wq [.val (iV (k0 : Nat)), .val (iV (k0 : Nat))] [.inr 0, .inr 1] [.inl 1, .inr 1, .inr 2, .inr 3, .inr 4, .inr 5] S4 ?_ ?_
  ·apply jj2
   ·exact mS 2 12
   ·exact mO 0 14
  intro B5 a5 W5 (S5 : Sta w 43 [(5, (.box 26 (Zv (tk D L M z k0) K))), (8, (yf4))] [(9, iV (k0 : Nat)), (11, iV (m : Nat)), (12, iV (k0 : Nat)), (0, Vv n1 D K), (2, Vv m L K), (3, Vv m2 M K)] _ _ _)
  refine wq [.val (Vv n1 D K), .val (iV (k0 : Nat)), .val (iV ((k0 + 1 : Nat) : Int)), .val (AtE 2 (Zv (D.getD (k0 + 1) 0) K)), .val (Zv (D.getD (k0 + 1) 0) K), .val (Zv (tk D L M z k0) K), .val ((ZN ((D.getD (k0 + 1) 0) * (tk D L M z k0))) w.heap.size), .val (Vv m L K), .val (iV (k0 : Nat)), .val (AtE 2 (Zv (L.getD k0 0) K)), .val (Zv (L.getD k0 0) K), .val (Vv m2 M K), .val (iV (k0 : Nat)), .val (AtE 2 (Zv (M.getD k0 0) K)), .val (Zv (M.getD k0 0) K), .val ((ZN ((L.getD k0 0) * (M.getD k0 0))) w.heap.size), .val (yp1 w D L M z k0), .put (.inl 5) (.box 26 (yp1 w D L M z k0))] [.inr 0, .inr 1] [.inr 0, .inr 1, .inr 2, .inr 3, .inr 4, .inr 5] S5 ?_ ?_
  ·repeat' refine And.intro ?_ ?_
   ·trivial
   ·exact mS 3 0
   ·exact mS 0 9
   ·exact ya3 wA (oO 1 16) (yaa _)
   ·exact yae rfl wA rfl yby (oO 0 15) (oO 2 17) (yhj (by omega)) rfl
   ·exact yag rfl wA rfl ycp (by decide) (ya5 (by decide) ybc) (oO 3 18) rfl
   ·exact lod 0 wA (yau yaj ybc)
   ·exact cc2 wA (qO 4 19 rfl) (qO 5 20 rfl) (ya1 _) (fun w u v h1 h2 => ygl (by omega) w u v ((fun _ _ h => h) _ _ h1) ((fun _ _ h => h) _ _ h2))
   ·exact mS 4 2
   ·exact mS 0 9
   ·exact yae rfl wA rfl yby (oO 7 22) (oO 8 23) (yhj (by omega)) rfl
   ·exact yag rfl wA rfl ycp (by decide) (ya5 (by decide) ybc) (oO 9 24) rfl
   ·exact mS 5 3
   ·exact mS 0 9
   ·exact yae rfl wA rfl yby (oO 11 26) (oO 12 27) (yhj (by omega)) rfl
   ·exact yag rfl wA rfl ycp (by decide) (ya5 (by decide) ybc) (oO 13 28) rfl
   ·exact cc2 wA (qO 10 25 rfl) (qO 14 29 rfl) (ya1 _) (fun w u v h1 h2 => ygl (by omega) w u v ((fun _ _ h => h) _ _ h1) ((fun _ _ h => h) _ _ h2))
   ·exact cc2 wA (qO 6 21 rfl) (qO 15 30 rfl) (ya1 _) (fun w u v h1 h2 => g_zsub (by omega) (by omega) w u v ((ycy hq1) _ _ h1) ((ycy hq2) _ _ h2))
   ·exact ya7 rfl wA rfl (k := 0) rfl (by kernel_rfl) (oO 16 31) (yaf yaj ybc ya0) rfl
  intro _ a6 _ (S6 : Sta w 43 [(5, (.box 26 (yp1 w D L M z k0))), (8, (yf4))] [(9, iV (k0 : Nat)), (11, iV (m : Nat)), (12, iV (k0 : Nat)), (0, Vv n1 D K), (2, Vv m L K), (3, Vv m2 M K)] _ _ _)
  refine wr [.val (yp1 w D L M z k0), .val (Vv n1 D K), .val (iV (k0 : Nat)), .val (AtE 2 (Zv (D.getD k0 0) K)), .val (Zv (D.getD k0 0) K), .val ((TWO (ZN (fl (((D.getD (k0 + 1) 0) * (tk D L M z k0)) - ((L.getD k0 0) * (M.getD k0 0))) (D.getD k0 0))) (IS (.int .i64 0))) w.heap.size), .val ((TWO (ZN (fl (((D.getD (k0 + 1) 0) * (tk D L M z k0)) - ((L.getD k0 0) * (M.getD k0 0))) (D.getD k0 0))) (IS (.int .i64 0))) w.heap.size), .val (yp0 w D L M z k0), .val (iV 0), .put (.inl 5) (.box 26 (yp0 w D L M z k0))] [.inr 0, .inr 1] [.inr 1, .inr 2, .inr 3, .inr 4, .inr 5] S6 ?_ ?_
  ·repeat' refine And.intro ?_ ?_
   ·trivial
   ·exact lod 0 wA (yau yaj ya0)
   ·exact mS 3 0
   ·exact mS 0 9
   ·exact yae rfl wA rfl yby (oO 1 34) (oO 2 35) (yhj (by omega)) rfl
   ·exact yag rfl wA rfl ycp (by decide) (ya5 (by decide) ybc) (oO 3 36) rfl
   ·exact cc2 wA (qO 0 33 rfl) (qO 4 37 rfl) (ybo (ya1 _) (yak _)) (fun w u v h1 h2 => ygk (ok.ne k0 hlt) (ok.ex k0 hlt) (by omega) w u v ((ycy hq3) _ _ h1) ((fun _ _ h => h) _ _ h2))
   ·exact mO 5 38
   ·exact e20 wA (oO 6 32)
   ·exact e21 wA (oO 6 32)
   ·exact ya7 rfl wA rfl (k := 0) rfl (by kernel_rfl) (oO 7 39) (yaf yaj ya0 ya0) rfl
  intro _ a7 _ (S7 : Sta w 43 [(5, (.box 26 (yp0 w D L M z k0))), (8, (yf4))] [(11, iV (m : Nat)), (12, iV (k0 : Nat)), (0, Vv n1 D K), (2, Vv m L K), (3, Vv m2 M K)] _ _ _)
  refine inBlkN (thenN ?_)
  refine wr [.val (iV (k0 + 1 : Nat)), .val (iV (k0 + 1 : Nat))] [.inr 0, .inr 1] [.inl 1, .inr 0, .inr 2, .inr 3, .inr 4] S7 ?_ ?_
  ·apply jj2
   ·exact ya3 wA (oS 1 12) (yaa _)
   ·exact mO 0 41
  intro B8 a8 _ (S8 : Sta w 43 [(5, (.box 26 (yp0 w D L M z k0))), (8, (yf4))] [(12, iV (k0 + 1 : Nat)), (11, iV (m : Nat)), (0, Vv n1 D K), (2, Vv m L K), (3, Vv m2 M K)] _ _ _)
  refine thenN ?_
  exact ⟨k0 + 1, ⟨by omega, B8, S8.sub [0, 1] [1, 0, 2, 3, 4]⟩, by omega⟩
 ·have ek : k0 = m := by omega
  rw [ek] at S3
  have S3 := S3.reboxS 0 rfl (tkp_zn h0m)
  refine wq [kF] [.inr 0, .inr 1] [.inl 0, .inr 0, .inr 1, .inr 2, .inr 3, .inr 4] S3 ?_ ?_
  ·apply jj1
   ·exact yaz wA (oS 1 12) (oS 0 11)
  intro B4 a4 W4 (S4 : Sta w 43 [(5, (.box 26 ((ZN (tk D L M z m)) w.heap.size))), (8, (yf4))] [(13, bF), (11, iV (m : Nat)), (12, iV (m : Nat)), (0, Vv n1 D K), (2, Vv m L K), (3, Vv m2 M K)] _ _ _)
  refine wp_seq (wp_cond_false (S4.bool 0 13 rfl) (wp_exit (thenX (thenX (inBlkE (thenN ?_))))))
  refine wq [.val ((ZN (tk D L M z m)) w.heap.size), .put (.inl 8) (.box 26 ((ZN (tk D L M z m)) w.heap.size))] [.inr 0, .inr 1] [.inr 1, .inr 2, .inr 3, .inr 4, .inr 5] S4 ?_ ?_
  ·apply jj2
   ·exact lod 0 wA (yau yaj ya0)
   ·exact ya7 rfl wA rfl (k := 1) rfl (by kernel_rfl) (oO 0 42) (yaf yaj ycn ya0) rfl
  intro B5 a5 W5 (S5 : Sta w 43 [(5, (.box 26 ((ZN (tk D L M z m)) w.heap.size))), (8, (.box 26 ((ZN (tk D L M z m)) w.heap.size)))] [(11, iV (m : Nat)), (12, iV (m : Nat)), (0, Vv n1 D K), (2, Vv m L K), (3, Vv m2 M K)] _ _ _)
  refine wp_ret ?_
  exact ybe S5 rfl (ybb S5 1 8 rfl yaj ya0)
def dotR (R B : List Int) : Int := sumZ (List.zipWith (· * ·) R B)
def lfL (D : List Int) (L Bm : List (List Int)) (R : List Int) : Nat → List Int
 | 0 => []
 | j + 1 => lfL D L Bm R j ++ [tk D (lfL D L Bm R j) (L.getD j []) (dotR R (Bm.getD j [])) j]
theorem yg7 (D : List Int) (L Bm : List (List Int)) (R : List Int) : ∀ j, (lfL D L Bm R j).length = j
 | 0 => rfl
 | j + 1 => by simp [lfL, yg7 D L Bm R j]
structure LfOk (D : List Int) (L Bm : List (List Int)) (R : List Int) (m K : Nat) : Prop where
 row : ∀ j, j < m → TkOk D (lfL D L Bm R j) (L.getD j []) (dotR R (Bm.getD j [])) j K
 last : TkOk D (lfL D L Bm R m) (lfL D L Bm R m) (dotR R R) m K
theorem lf_dl {D : List Int} {L Bm : List (List Int)} {R : List Int} {m K : Nat} (ok : LfOk D L Bm R m K) : ∀ j, j ≤ m → Dl (lfL D L Bm R j) K
 | 0, _ => fun i z h => by simp [lfL] at h
 | j + 1, hj => fun i z h => by
  have hl := yg7 D L Bm R j
  rcases Nat.lt_or_ge i j with h1 | h1
  ·rw [lfL, List.getElem?_append_left (by omega)] at h
   exact lf_dl ok j (by omega) i z h
  ·rw [lfL, List.getElem?_append_right (by omega)] at h
   cases hi : i - (lfL D L Bm R j).length with
   | zero => rw [hi] at h; simp at h; rw [← h]; exact (ok.row j (by omega)).dl j (Nat.le_refl _)
   | succ t => rw [hi] at h; simp at h
section
variable {ops : Array Oper} {l : List Kd} {bx : Bxs} {sl : List (Tmp × Pr)} {i : Nat} {o : Oper} {Q : Exit → Act → World → Prop} {a0 : Act} {n : Nat} {w0 : World} {vs : Nat → Value} {B : Nat → Prop} {a : Act} {w : World}
theorem yny (c : Ctx ops l bx sl a0 n w0 i vs B a w) {v0 v1 v2 v3 : Value} {n1 m m2 K : Nat} {D L M : List Int} {z : Int} (h0 : Hs w (Vv n1 D K) v0) (h1 : Has B w (ZN z w0.heap.size) v1) (h2 : Hs w (Vv m L K) v2) (h3 : Hs w (Vv m2 M K) v3) (hn : m < n1) (hm : m ≤ m2) (hK : K ≤ 1073741824) (hN : n1 ≤ 1048576) (ok : TkOk D L M z m K) :
  Calls Tryz.prog 43 #[v0, v1, v2, v3] w fun e w' => ∃ r, e = .returned r ∧ Below w.heap.size w w' ∧ Has B w' (ZN (tk D L M z m) w0.heap.size) r := by
 cases m with
 | zero =>
  obtain ⟨r, c', rfl, _⟩ := id h1.now
  refine (taken_0 w v0 v2 v3 _ _ _ _ K L h2).mono ?_
  rintro e w' ⟨v, rfl, hb, hv⟩
  obtain rfl : v = _ := hv
  exact ⟨_, rfl, hb, h1.go (Ev.of_below hb) (fun _ _ h => h)⟩
 | succ m => exact (taken_s w v0 v1 v2 v3 n1 (m + 1) m2 K D L M z h0 (h1.hs.imp (fun w => ycy (ok.dl 0 (by omega)) v1 w)) h2 h3 hn hm (by omega) hK hN ok).mono (fun e w' h => yip (ya1 _) c h)
end
section
variable {ops : Array Oper} {l : List Kd} {bx : Bxs} {sl : List (Tmp × Pr)} {i : Nat} {o : Oper} {Q : Exit → Act → World → Prop} {a0 : Act} {n : Nat} {w0 : World}
theorem owe_takenR {x0 x1 x2 x3 : Operand} {ts : Array TypeId} {t kk E n1 m m2 K : Nat} {D L M : List Int} {z : Int} (ho : ops[i]? = some o) (hw : Wants ops l bx sl i o) (hop : o.op = .call { callee := .value (.func 43), args := #[x0, x1, x2, x3], argTypes := ts })
    (h0 : Opnd ops l bx sl i x0 (Vv n1 D K)) (h1 : Opnd ops l bx sl i x1 (ZN z w0.heap.size)) (h2 : Opnd ops l bx sl i x2 (Is (a0.eval (.tmp t)))) (h3 : Opnd ops l bx sl i x3 (Vv m2 M K)) (hb : bx[kk]? = some (t, .row E 2 m (CE 2 ((L.map ZN).map (· w0.heap.size))))) (hu : unturned ops l i (.inl t) = true)
    (hL : Dl L K) (hn : m < n1) (hm : m ≤ m2) (hK : K ≤ 1073741824) (hN : n1 ≤ 1048576) (ok : TkOk D L M z m K) (hk : kdAt l i = .val (ZN (tk D L M z m) w0.heap.size)) : Owed Tryz.prog ops Q l bx sl a0 n w0 i :=
  ygr ho hw hop hk (fun args w => by go_simp) fun vs B a w c => by
    rw [show (#[x0, x1, x2, x3] : Array Operand).map a.eval = #[a.eval x0, a.eval x1, a.eval x2, a.eval x3] from by simp]
    have e2 : a.eval x2 = a0.eval (.tmp t) := (h2 a0 n w0 vs B a w c).now
    have h2' : Hs w (Vv m L K) (a.eval x2) := by
      rw [e2]
      exact row_hs (c.box t _ (List.mem_of_getElem? hb) hu) (fun v w ys ho hc => yju hL v w (ydi (by decide) v w ys ho hc))
    exact yny c (h0 a0 n w0 vs B a w c).hs (h1 a0 n w0 vs B a w c) h2' (h3 a0 n w0 vs B a w c).hs hn hm hK hN ok
theorem owe_takenV {x0 x1 x2 x3 : Operand} {ts : Array TypeId} {n1 m m2 K : Nat} {D L M : List Int} {z : Int} (ho : ops[i]? = some o) (hw : Wants ops l bx sl i o) (hop : o.op = .call { callee := .value (.func 43), args := #[x0, x1, x2, x3], argTypes := ts })
    (h0 : Opnd ops l bx sl i x0 (Vv n1 D K)) (h1 : Opnd ops l bx sl i x1 (ZN z w0.heap.size)) (h2 : Opnd ops l bx sl i x2 (Vv m L K)) (h3 : Opnd ops l bx sl i x3 (Vv m2 M K))
    (hn : m < n1) (hm : m ≤ m2) (hK : K ≤ 1073741824) (hN : n1 ≤ 1048576) (ok : TkOk D L M z m K) (hk : kdAt l i = .val (ZN (tk D L M z m) w0.heap.size)) : Owed Tryz.prog ops Q l bx sl a0 n w0 i :=
  ygr ho hw hop hk (fun args w => by go_simp) fun vs B a w c => by
    rw [show (#[x0, x1, x2, x3] : Array Operand).map a.eval = #[a.eval x0, a.eval x1, a.eval x2, a.eval x3] from by simp]
    exact yny c (h0 a0 n w0 vs B a w c).hs (h1 a0 n w0 vs B a w c) (h2 a0 n w0 vs B a w c).hs (h3 a0 n w0 vs B a w c).hs hn hm hK hN ok
end
abbrev yez (n0 : Nat) (K : Nat) (D : List Int) (L : List (List Int)) : Rk := .box 42 (SF [(Vv (n0 + 1) D K), (Mv n0 L K)])
abbrev ye0  : Rk := .box 26 zI
theorem left_w (w : World) (u0 u1 u2 : Value) (n0 nb x K : Nat) (D : List Int) (L Bm : List (List Int)) (R : List Int) (h0 : Hs w (SF [Vv (n0 + 1) D K, Mv n0 L K]) u0) (h1 : Hs w (Mv nb Bm K) u1) (h2 : Hs w (Vv x R K) u2) (hnb : n0 ≤ nb) (hn : n0 ≤ 1048000) (hx : x ≤ 1048576) (hK : K ≤ 500000000) (lL : L.length = n0) (lB : Bm.length = nb) (hLl : ∀ j, j < n0 → (L.getD j []).length = j) (hBl : ∀ j, j < n0 → (Bm.getD j []).length = x) (ok : LfOk D L Bm R n0 K) :
  Calls Tryz.prog 17 #[u0, u1, u2] w (Gives (TWO (VN n0 (lfL D L Bm R n0)) (ZN (tk D (lfL D L Bm R n0) (lfL D L Bm R n0) (dotR R R) n0))) w) := by
 refine yam (sl := [(0, (SF [(Vv (n0 + 1) D K), (Mv n0 L K)])), (1, (Mv nb Bm K)), (2, (Vv x R K))]) Tryz.func17 rfl Tryz.ntmps17 (by simp) (yab rfl (h0) (yab rfl (h1) (yab rfl (h2) yaq))) ?_
 intro a0 S0
 refine wq [.new (yez n0 K D L), .val (Is (.slice none 0 0)), .new (ye0)] [.inl 0, .inl 2] [.inr 1, .inr 2] S0 ?_ ?_
 ·apply jj3
  ·exact ycr rfl wA rfl (oS 0 0) rfl (fun ρ w h => yn8 yb1 ρ _ _ w h)
  ·exact mC
  ·exact yat rfl wA rfl rfl (fun ρ w => ybi ρ _ w)
 intro _ a1 _ (S1 : Sta w 52 [(3, (yez n0 K D L)), (7, (ye0))] [(1, Mv nb Bm K), (2, Vv x R K)] _ _ _)
 refine wq [.val (Part a1 3 1), .val (Mv n0 L K), .val (iV (n0 : Nat)), .new (.row 26 2 0 (CE 2 (((lfL D L Bm R 0).map ZN).map (· w.heap.size)))), .ref 3] [.inr 0, .inr 1, .inl 4] [.inr 0, .inr 1] S1 ?_ ?_
 ·apply jj5
  ·exact ya2 rfl wA rfl (k := 0) rfl (by kernel_rfl) rfl (fun ρ w b h => yed ρ _ _ w b 0 h)
  ·exact yav rfl wA rfl (oO 0 13) (k := 0) rfl (by kernel_rfl) rfl (fun ρ w b u h1 h2 h3 => ploadS rfl yet ρ _ _ w b u h1 h2 h3)
  ·exact yal rfl wA rfl (oO 1 14) yaw Tryz.underlying22 rfl
  ·exact owe_make0 rfl wA rfl Tryz.underlying39 infoInt (oO 2 15) ⟨by omega, by unfold maxLen; omega⟩ yjx rfl
  ·exact yea 3 rfl wA (Or.inr rfl) (by kernel_rfl) rfl rfl
 intro _ a2 _ (S2 : Sta w 52 [(3, (yez n0 K D L)), (7, (ye0)), (8, (.row 26 2 0 (CE 2 (((lfL D L Bm R 0).map ZN).map (· w.heap.size)))))] [(1, Mv nb Bm K), (2, Vv x R K)] _ _ _)
 refine wp_seq ?_
 refine wq [.val (Part a2 3 1), .val (Mv n0 L K), .val (iV (n0 : Nat)), .val (iV 0)] [.inr 0, .inr 1, .inr 2] [.inl 1, .inl 2, .inl 3, .inr 0, .inr 1] S2 ?_ ?_
 ·apply jj4
  ·exact ya2 rfl wA rfl (k := 0) rfl (by kernel_rfl) rfl (fun ρ w b h => yed ρ _ _ w b 0 h)
  ·exact yav rfl wA rfl (oO 0 17) (k := 0) rfl (by kernel_rfl) rfl (fun ρ w b u h1 h2 h3 => ploadS rfl yet ρ _ _ w b u h1 h2 h3)
  ·exact yal rfl wA rfl (oO 1 18) yaw Tryz.underlying22 rfl
  ·exact mC
 intro B3 a3 _ (S3 : Sta w 52 [(3, (yez n0 K D L)), (7, (ye0)), (8, (.row 26 2 0 (CE 2 (((lfL D L Bm R 0).map ZN).map (· w.heap.size)))))] [(18, Mv n0 L K), (19, iV (n0 : Nat)), (20, iV 0), (1, Mv nb Bm K), (2, Vv x R K)] _ _ _)
 refine wp_block ?_
 refine yan (fun (k0 : Nat) a W => (k0 ≤ n0) ∧ ∃ Bq, Sta w 52 [(3, (yez n0 K D L)), (7, (ye0)), (8, (.row 26 2 k0 (CE 2 (((lfL D L Bm R k0).map ZN).map (· w.heap.size)))))] [(18, Mv n0 L K), (19, iV (n0 : Nat)), (20, iV (k0 : Nat)), (1, Mv nb Bm K), (2, Vv x R K)] Bq a W) (fun (k0 : Nat) => n0 - k0) ?_ 0 ⟨Nat.zero_le _, B3, S3.sub [0, 1, 2] [0, 1, 2, 3, 4]⟩
 rintro k0 a4 _ ⟨hcond, _, S4⟩
 by_cases hlt : k0 < n0
 ·have hl1 := hLl k0 hlt
  have hl2 := hBl k0 hlt
  refine wq [kT] [.inr 0, .inr 1, .inr 2] [.inl 0, .inr 0, .inr 1, .inr 2, .inr 3, .inr 4] S4 ?_ ?_
  ·apply jj1
   ·exact yar wA (oS 2 20) (oS 1 19)
  intro B5 a5 W5 (S5 : Sta w 52 [(3, (yez n0 K D L)), (7, (ye0)), (8, (.row 26 2 k0 (CE 2 (((lfL D L Bm R k0).map ZN).map (· w.heap.size)))))] [(21, bT), (18, Mv n0 L K), (19, iV (n0 : Nat)), (20, iV (k0 : Nat)), (1, Mv nb Bm K), (2, Vv x R K)] _ _ _)
  refine wp_seq (wp_cond_true (S5.bool 0 21 rfl) (wp_skip (thenN (wp_seq (wp_block ?_)))))
  refine wq [.val (iV (k0 : Nat)), .val (AtE 1 (Vv k0 (L.getD k0 []) K)), .val (Vv k0 (L.getD k0 []) K), .val (iV (k0 : Nat)), .val (Vv k0 (L.getD k0 []) K)] [.inr 0, .inr 1, .inr 2] [.inl 3, .inl 4, .inr 1, .inr 2, .inr 3, .inr 4, .inr 5] S5 ?_ ?_
  ·apply jj5
   ·exact mS 3 20
   ·exact yae rfl wA rfl ya8 (oS 1 18) (oS 3 20) (by have q := yda (A := L) (K := K) (k := k0) (by omega); rw [hl1] at q; exact q) rfl
   ·exact yag rfl wA rfl ya9 (by decide) yb3 (oO 1 23) rfl
   ·exact mO 0 22
   ·exact mO 2 24
  intro B6 a6 W6 (S6 : Sta w 52 [(3, (yez n0 K D L)), (7, (ye0)), (8, (.row 26 2 k0 (CE 2 (((lfL D L Bm R k0).map ZN).map (· w.heap.size)))))] [(9, iV (k0 : Nat)), (10, Vv k0 (L.getD k0 []) K), (18, Mv n0 L K), (19, iV (n0 : Nat)), (20, iV (k0 : Nat)), (1, Mv nb Bm K), (2, Vv x R K)] _ _ _)
  refine wq [.val (Vv x R K), .val (Mv nb Bm K), .val (iV (k0 : Nat)), .val (AtE 1 (Vv x (Bm.getD k0 []) K)), .val (Vv x (Bm.getD k0 []) K), .val ((TWO (ZN (dotR R (Bm.getD k0 []))) (IS (.int .i64 0))) w.heap.size), .val ((TWO (ZN (dotR R (Bm.getD k0 []))) (IS (.int .i64 0))) w.heap.size), .val ((ZN (dotR R (Bm.getD k0 []))) w.heap.size), .val (iV 0), .new (ye0), .put (.inr 9) (.box 26 ((ZN (dotR R (Bm.getD k0 []))) w.heap.size)), .val (iV 0)] [.inr 0, .inr 1, .inr 2, .inl 9] [.inr 1, .inr 2, .inr 3, .inr 4, .inr 5, .inr 6] S6 ?_ ?_
  ·repeat' refine And.intro ?_ ?_
   ·trivial
   ·exact mS 6 2
   ·exact mS 5 1
   ·exact mS 0 9
   ·exact yae rfl wA rfl ya8 (oO 1 27) (oO 2 28) (by have q := yda (A := Bm) (K := K) (k := k0) (by omega); rw [hl2] at q; exact q) rfl
   ·exact yag rfl wA rfl ya9 (by decide) yb3 (oO 3 29) rfl
   ·exact ch2 wA (qO 0 26 rfl) (qO 4 30 rfl) (ybo (ya1 _) (yak _)) (fun w u v h1 h2 => dot_y w u v x K K R (Bm.getD k0 []) h1 h2 (by omega) (by omega))
   ·exact mO 5 31
   ·exact e20 wA (oO 6 25)
   ·exact e21 wA (oO 6 25)
   ·exact yat rfl wA rfl rfl (fun ρ w => ybi ρ _ w)
   ·exact ybj 9 rfl wA rfl (by kernel_rfl) rfl (oO 7 32) (yaf yaj ycn ya0) rfl
   ·exact mO 8 33
  intro B7 a7 W7 (S7 : Sta w 52 [(3, (yez n0 K D L)), (7, (ye0)), (8, (.row 26 2 k0 (CE 2 (((lfL D L Bm R k0).map ZN).map (· w.heap.size))))), (11, (.box 26 ((ZN (dotR R (Bm.getD k0 []))) w.heap.size)))] [(10, Vv k0 (L.getD k0 []) K), (18, Mv n0 L K), (19, iV (n0 : Nat)), (20, iV (k0 : Nat)), (1, Mv nb Bm K), (2, Vv x R K)] _ _ _)
  refine wr [.val (Is (a7.eval (.tmp 8))), .val (Part a7 3 0), .val (Vv (n0 + 1) D K), .val ((ZN (dotR R (Bm.getD k0 []))) w.heap.size), .val (Is (a7.eval (.tmp 8))), .val (Vv k0 (L.getD k0 []) K), .val ((ZN (tk D (lfL D L Bm R k0) (L.getD k0 []) (dotR R (Bm.getD k0 [])) k0)) w.heap.size), .val (Sng 26 2 ((ZN (tk D (lfL D L Bm R k0) (L.getD k0 []) (dotR R (Bm.getD k0 [])) k0)) w.heap.size) w.heap.size), .mov 8 (.row 26 2 (k0 + 1) (CE 2 (((lfL D L Bm R (k0 + 1)).map ZN).map (· w.heap.size)))), .ref 8] [.inr 0, .inr 1, .inl 9] [.inr 1, .inr 2, .inr 3, .inr 4, .inr 5] S7 ?_ ?_
  ·repeat' refine And.intro ?_ ?_
   ·trivial
   ·exact yct rfl wA (Or.inl rfl) (by kernel_rfl) rfl
   ·exact ya2 rfl wA rfl (k := 0) rfl (by kernel_rfl) rfl (fun ρ w b h => ydz ρ _ _ w b 0 h)
   ·exact yav rfl wA rfl (oO 1 35) (k := 0) rfl (by kernel_rfl) rfl (fun ρ w b u h1 h2 h3 => ploadS rfl yd8 ρ _ _ w b u h1 h2 h3)
   ·exact lod 3 wA (yau yaj ya0)
   ·exact yct rfl wA (Or.inl rfl) (by kernel_rfl) rfl
   ·exact mS 0 10
   ·exact owe_takenR (t := 8) (kk := 2) rfl wA rfl (oO 2 36) (oO 3 37) (oO 4 38) (oO 5 39) rfl (by kernel_rfl) (lf_dl ok k0 (by omega)) (by omega) (by omega) (by omega) (by omega) (ok.row k0 hlt) rfl
   ·exact ygp rfl wA rfl yig (oO 6 40) (ya5 (by decide) ya0) rfl
   ·exact yfy rfl wA rfl (oO 0 34) (k := 2) rfl (by kernel_rfl) ((oO 7 41).imp yhk) ykx Tryz.underlying39 (by decide) ⟨by unfold maxLen; omega, by omega⟩ rfl (fun xs ys w h1 h2 => by simp only [lfL, List.map_append, List.map_cons, List.map_nil]; exact ydy _ _ _ h1 h2)
   ·exact yea 8 rfl wA (Or.inr rfl) (by kernel_rfl) rfl rfl
  intro _ a8 _ (S8 : Sta w 52 [(3, (yez n0 K D L)), (7, (ye0)), (8, (.row 26 2 (k0 + 1) (CE 2 (((lfL D L Bm R (k0 + 1)).map ZN).map (· w.heap.size)))))] [(18, Mv n0 L K), (19, iV (n0 : Nat)), (20, iV (k0 : Nat)), (1, Mv nb Bm K), (2, Vv x R K)] _ _ _)
  refine inBlkN (thenN ?_)
  refine wr [.val (iV (k0 + 1 : Nat)), .val (iV (k0 + 1 : Nat))] [.inr 0, .inr 1, .inr 2] [.inl 1, .inr 0, .inr 1, .inr 3, .inr 4] S8 ?_ ?_
  ·apply jj2
   ·exact ya3 wA (oS 2 20) (yaa _)
   ·exact mO 0 43
  intro B9 a9 _ (S9 : Sta w 52 [(3, (yez n0 K D L)), (7, (ye0)), (8, (.row 26 2 (k0 + 1) (CE 2 (((lfL D L Bm R (k0 + 1)).map ZN).map (· w.heap.size)))))] [(20, iV (k0 + 1 : Nat)), (18, Mv n0 L K), (19, iV (n0 : Nat)), (1, Mv nb Bm K), (2, Vv x R K)] _ _ _)
  refine thenN ?_
  exact ⟨k0 + 1, ⟨by omega, B9, S9.sub [0, 1, 2] [1, 2, 0, 3, 4]⟩, by omega⟩
 ·have ek : k0 = n0 := by omega
  rw [ek] at S4
  refine wq [kF] [.inr 0, .inr 1, .inr 2] [.inl 0, .inr 0, .inr 1, .inr 2, .inr 3, .inr 4] S4 ?_ ?_
  ·apply jj1
   ·exact yaz wA (oS 2 20) (oS 1 19)
  intro B5 a5 W5 (S5 : Sta w 52 [(3, (yez n0 K D L)), (7, (ye0)), (8, (.row 26 2 n0 (CE 2 (((lfL D L Bm R n0).map ZN).map (· w.heap.size)))))] [(21, bF), (18, Mv n0 L K), (19, iV (n0 : Nat)), (20, iV (n0 : Nat)), (1, Mv nb Bm K), (2, Vv x R K)] _ _ _)
  refine wp_seq (wp_cond_false (S5.bool 0 21 rfl) (wp_exit (thenX (thenX (inBlkE (thenN ?_))))))
  obtain ⟨B6, S6⟩ : ∃ Bq, Sta w 52 [(3, (yez n0 K D L)), (7, (ye0))] [(8, ((VN n0 (lfL D L Bm R n0)) w.heap.size)), (21, bF), (18, Mv n0 L K), (19, iV (n0 : Nat)), (20, iV (n0 : Nat)), (1, Mv nb Bm K), (2, Vv x R K)] Bq a5 W5 := ⟨_, S5.freeze 2 rfl (by simp) (fun v w' xs ho hc => ydi (by decide) v w' xs ho hc)⟩
  obtain ⟨a6, W6, e1, e2⟩ : ∃ a W, a5 = a ∧ W5 = W := ⟨_, _, rfl, rfl⟩
  rw [e1, e2] at S6 ⊢
  clear e1 e2
  refine wq [.val ((VN n0 (lfL D L Bm R n0)) w.heap.size), .val (Part a6 3 0), .val (Vv (n0 + 1) D K), .val (Vv x R K), .val ((ZN (dotR R R)) w.heap.size), .val ((VN n0 (lfL D L Bm R n0)) w.heap.size), .val ((VN n0 (lfL D L Bm R n0)) w.heap.size), .val ((ZN (tk D (lfL D L Bm R n0) (lfL D L Bm R n0) (dotR R R) n0)) w.heap.size), .val ((VN n0 (lfL D L Bm R n0)) w.heap.size), .put (.inl 7) (.box 26 ((ZN (tk D (lfL D L Bm R n0) (lfL D L Bm R n0) (dotR R R) n0)) w.heap.size))] [.inr 0, .inr 1] [.inl 8, .inr 0, .inr 2, .inr 3, .inr 4, .inr 5, .inr 6] S6 ?_ ?_
  ·repeat' refine And.intro ?_ ?_
   ·trivial
   ·exact mS 0 8
   ·exact ya2 rfl wA rfl (k := 0) rfl (by kernel_rfl) rfl (fun ρ w b h => ydz ρ _ _ w b 0 h)
   ·exact yav rfl wA rfl (oO 1 45) (k := 0) rfl (by kernel_rfl) rfl (fun ρ w b u h1 h2 h3 => ploadS rfl yd8 ρ _ _ w b u h1 h2 h3)
   ·exact mS 6 2
   ·exact ch1 wA (qO 3 47 rfl) (ya1 _) (fun w u h1 => norm_w w u x K R h1 (by omega) (by omega))
   ·exact mS 0 8
   ·exact mS 0 8
   ·exact owe_takenV rfl wA rfl (oO 2 46) (oO 4 48) ((oO 5 49).imp (yju (lf_dl ok n0 (Nat.le_refl _)))) ((oO 6 50).imp (yju (lf_dl ok n0 (Nat.le_refl _)))) (by omega) (by omega) (by omega) (by omega) ok.last rfl
   ·exact mO 0 44
   ·exact ya7 rfl wA rfl (k := 1) rfl (by kernel_rfl) (oO 7 51) (yaf yaj ycn ya0) rfl
  intro B7 a7 W7 (S7 : Sta w 52 [(3, (yez n0 K D L)), (7, (.box 26 ((ZN (tk D (lfL D L Bm R n0) (lfL D L Bm R n0) (dotR R R) n0)) w.heap.size)))] [(6, ((VN n0 (lfL D L Bm R n0)) w.heap.size)), (8, ((VN n0 (lfL D L Bm R n0)) w.heap.size)), (18, Mv n0 L K), (19, iV (n0 : Nat)), (20, iV (n0 : Nat)), (1, Mv nb Bm K), (2, Vv x R K)] _ _ _)
  refine wp_ret ?_
  exact yc8 S7 rfl (yay S7 0 6 rfl) (ybb S7 1 7 rfl yaj ya0)
def nar (A : List (List Int)) : Prop := ∀ (i : Nat) r, A[i]? = some r → r.length ≤ 12
theorem wide_n (w : World) (u : Value) (n k : Nat) (As : List Int) (h : Hs w (Vv n As k) u) (hn : n ≤ 12) :
  Calls Tryz.prog 83 #[u] w (Gives (IS (.bool false)) w) := by
 refine yam (sl := [(0, (Vv n As k))]) Tryz.func83 rfl Tryz.ntmps83 (by simp) (yab rfl (h) yaq) ?_
 intro a0 S0
 refine wq [kF] [] [.inr 0] S0 ?_ ?_
 ·apply jj1
  ·exact mC
 intro _ a1 _ (S1 : Sta w 6 [] [(0, Vv n As k)] _ _ _)
 refine wq [.val (Vv n As k), .val (iV (n : Nat)), kF, kF] [] [.inl 3] S1 ?_ ?_
 ·apply jj4
  ·exact mS 0 0
  ·exact yal rfl wA rfl (oO 0 3) yaw Tryz.underlying39 rfl
  ·exact yb0 wA (oO 1 4) (yaa _)
  ·exact mO 2 5
 intro _ a2 _ (S2 : Sta w 6 [] [(2, bF)] _ _ _)
 refine wp_ret ?_
 exact ybe S2 rfl (yay S2 0 2 rfl)
theorem idxr_n (w : World) (u f : Value) (n k : Nat) (A : List (List Int)) (h : Hs w (Mv n A k) u) (hn : n ≤ 1048576) (lA : A.length = n) (hf : Hs w (Fn1 (A.map (fun zs => Vv zs.length zs k)) (A.map (fun _ => IS (.bool false)))) f) :
  Calls Tryz.prog 98 #[u, f] w (Gives (IS (.int .i64 (-1))) w) := by
 refine yam (sl := [(0, (Mv n A k)), (1, (Fn1 (A.map (fun zs => Vv zs.length zs k)) (A.map (fun _ => IS (.bool false)))))]) Tryz.func98 rfl Tryz.ntmps98 (by simp) (yab rfl (h) (yab rfl (hf) yaq)) ?_
 intro a0 S0
 refine wq [.val (iV 0)] [] [.inr 0, .inr 1] S0 ?_ ?_
 ·apply jj1
  ·exact mC
 intro _ a1 _ (S1 : Sta w 19 [] [(0, Mv n A k), (1, (Fn1 (A.map (fun zs => Vv zs.length zs k)) (A.map (fun _ => IS (.bool false)))))] _ _ _)
 refine wp_seq ?_
 refine wq [.val (Mv n A k), .val (iV (n : Nat)), .val (iV 0)] [] [.inl 1, .inl 2, .inr 0, .inr 1] S1 ?_ ?_
 ·apply jj3
  ·exact mS 0 0
  ·exact yal rfl wA rfl (oO 0 6) yaw Tryz.underlying22 rfl
  ·exact mC
 intro B2 a2 _ (S2 : Sta w 19 [] [(7, iV (n : Nat)), (8, iV 0), (0, Mv n A k), (1, (Fn1 (A.map (fun zs => Vv zs.length zs k)) (A.map (fun _ => IS (.bool false)))))] _ _ _)
 refine wp_block ?_
 refine yan (fun (k0 : Nat) a W => (k0 ≤ n) ∧ ∃ Bq, Sta w 19 [] [(7, iV (n : Nat)), (8, iV (k0 : Nat)), (0, Mv n A k), (1, (Fn1 (A.map (fun zs => Vv zs.length zs k)) (A.map (fun _ => IS (.bool false)))))] Bq a W) (fun (k0 : Nat) => n - k0) ?_ 0 ⟨Nat.zero_le _, B2, S2.sub [] [0, 1, 2, 3]⟩
 rintro k0 a3 _ ⟨hcond, _, S3⟩
 by_cases hlt : k0 < n
 ·have hr := yda (A := A) (K := k) (k := k0) (by omega)
  have hz := yas (fun _ => IS (.bool false)) (List.getElem?_eq_getElem (show k0 < A.length by omega))
  refine wq [kT] [] [.inl 0, .inr 0, .inr 1, .inr 2, .inr 3] S3 ?_ ?_
  ·apply jj1
   ·exact yar wA (oS 1 8) (oS 0 7)
  intro B4 a4 W4 (S4 : Sta w 19 [] [(9, bT), (7, iV (n : Nat)), (8, iV (k0 : Nat)), (0, Mv n A k), (1, (Fn1 (A.map (fun zs => Vv zs.length zs k)) (A.map (fun _ => IS (.bool false)))))] _ _ _)
  refine wp_seq (wp_cond_true (S4.bool 0 9 rfl) (wp_skip (thenN (wp_seq (wp_block ?_)))))
  refine wq [.val (iV (k0 : Nat)), .val (iV (k0 : Nat))] [] [.inl 1, .inr 1, .inr 2, .inr 3, .inr 4] S4 ?_ ?_
  ·apply jj2
   ·exact mS 2 8
   ·exact mO 0 10
  intro B5 a5 W5 (S5 : Sta w 19 [] [(5, iV (k0 : Nat)), (7, iV (n : Nat)), (8, iV (k0 : Nat)), (0, Mv n A k), (1, (Fn1 (A.map (fun zs => Vv zs.length zs k)) (A.map (fun _ => IS (.bool false)))))] _ _ _)
  refine wq [.val (Fn1 (A.map (fun zs => Vv zs.length zs k)) (A.map (fun _ => IS (.bool false)))), .val (Mv n A k), .val (iV (k0 : Nat)), .val (AtE 1 (Vv ((A.getD k0 []).length) (A.getD k0 []) k)), .val (Vv ((A.getD k0 []).length) (A.getD k0 []) k), kF] [] [.inl 5, .inr 0, .inr 1, .inr 2, .inr 3, .inr 4] S5 ?_ ?_
  ·apply jj6
   ·exact mS 4 1
   ·exact mS 3 0
   ·exact mS 0 5
   ·exact yae rfl wA rfl ya8 (oO 1 12) (oO 2 13) hr rfl
   ·exact yag rfl wA rfl ya9 (by decide) yb3 (oO 3 14) rfl
   ·exact yhc k0 rfl wA rfl (oO 0 11) hr hz (oO 4 15) (yak _) rfl
  intro _ a6 _ (S6 : Sta w 19 [] [(16, bF), (5, iV (k0 : Nat)), (7, iV (n : Nat)), (8, iV (k0 : Nat)), (0, Mv n A k), (1, (Fn1 (A.map (fun zs => Vv zs.length zs k)) (A.map (fun _ => IS (.bool false)))))] _ _ _)
  refine wp_cond_false (S6.bool 0 16 rfl) (wp_skip (inBlkN (thenN ?_)))
  refine wr [.val (iV (k0 + 1 : Nat)), .val (iV (k0 + 1 : Nat))] [] [.inl 1, .inr 2, .inr 4, .inr 5] S6 ?_ ?_
  ·apply jj2
   ·exact ya3 wA (oS 3 8) (yaa _)
   ·exact mO 0 18
  intro B7 a7 _ (S7 : Sta w 19 [] [(8, iV (k0 + 1 : Nat)), (7, iV (n : Nat)), (0, Mv n A k), (1, (Fn1 (A.map (fun zs => Vv zs.length zs k)) (A.map (fun _ => IS (.bool false)))))] _ _ _)
  refine thenN ?_
  exact ⟨k0 + 1, ⟨by omega, B7, S7.sub [] [1, 0, 2, 3]⟩, by omega⟩
 ·skip
  refine wq [kF] [] [.inl 0, .inr 0, .inr 1, .inr 2, .inr 3] S3 ?_ ?_
  ·apply jj1
   ·exact yaz wA (oS 1 8) (oS 0 7)
  intro B4 a4 W4 (S4 : Sta w 19 [] [(9, bF), (7, iV (n : Nat)), (8, iV (k0 : Nat)), (0, Mv n A k), (1, (Fn1 (A.map (fun zs => Vv zs.length zs k)) (A.map (fun _ => IS (.bool false)))))] _ _ _)
  refine wp_seq (wp_cond_false (S4.bool 0 9 rfl) (wp_exit (thenX (thenX (inBlkE (thenN ?_))))))
  refine wq [.val (iV (-1))] [] [.inl 0, .inr 1, .inr 2, .inr 3, .inr 4] S4 ?_ ?_
  ·apply jj1
   ·exact mC
  intro B5 a5 W5 (S5 : Sta w 19 [] [(4, iV (-1)), (7, iV (n : Nat)), (8, iV (k0 : Nat)), (0, Mv n A k), (1, (Fn1 (A.map (fun zs => Vv zs.length zs k)) (A.map (fun _ => IS (.bool false)))))] _ _ _)
  refine wp_ret ?_
  exact ybe S5 rfl (yay S5 0 4 rfl)
theorem has_n (w : World) (u f : Value) (n k : Nat) (A : List (List Int)) (h : Hs w (Mv n A k) u) (hn : n ≤ 1048576) (lA : A.length = n) (hf : Hs w (Fn1 (A.map (fun zs => Vv zs.length zs k)) (A.map (fun _ => IS (.bool false)))) f) :
  Calls Tryz.prog 84 #[u, f] w (Gives (IS (.bool false)) w) := by
 refine yam (sl := [(0, (Mv n A k)), (1, (Fn1 (A.map (fun zs => Vv zs.length zs k)) (A.map (fun _ => IS (.bool false)))))]) Tryz.func84 rfl Tryz.ntmps84 (by simp) (yab rfl (h) (yab rfl (hf) yaq)) ?_
 intro a0 S0
 refine wq [kF] [] [.inr 0, .inr 1] S0 ?_ ?_
 ·apply jj1
  ·exact mC
 intro _ a1 _ (S1 : Sta w 9 [] [(0, Mv n A k), (1, (Fn1 (A.map (fun zs => Vv zs.length zs k)) (A.map (fun _ => IS (.bool false)))))] _ _ _)
 refine wq [.val (Mv n A k), .val (Fn1 (A.map (fun zs => Vv zs.length zs k)) (A.map (fun _ => IS (.bool false)))), .val (iV (-1)), kF, kF] [] [.inl 4] S1 ?_ ?_
 ·apply jj5
  ·exact mS 0 0
  ·exact mS 1 1
  ·exact ch2 wA (qO 0 5 rfl) (qO 1 6 rfl) (yak _) (fun w u f h hf => idxr_n w u f n k A h hn lA hf)
  ·exact yib wA (oO 2 7) (yaa _) (h := by decide)
  ·exact mO 3 8
 intro _ a2 _ (S2 : Sta w 9 [] [(4, bF)] _ _ _)
 refine wp_ret ?_
 exact ybe S2 rfl (yay S2 0 4 rfl)
theorem framed_ok (w : World) (u : Value) (n k x : Nat) (A : List (List Int)) (h : Hs w (Mv n A k) u) (h0 : 0 < n) (hn : n ≤ 12) (lA : A.length = n) (hw : nar A) (hR : Reg A x) :
  Calls Tryz.prog 64 #[u] w (Gives (IS (.int .i64 0)) w) := by
 refine yam (sl := [(0, (Mv n A k))]) Tryz.func64 rfl Tryz.ntmps64 (by simp) (yab rfl (h) yaq) ?_
 intro a0 S0
 refine wq [.val (iV 0)] [] [.inr 0] S0 ?_ ?_
 ·apply jj1
  ·exact mC
 intro _ a1 _ (S1 : Sta w 27 [] [(0, Mv n A k)] _ _ _)
 refine wq [.val (Is (.func (.func 83) #[] #[]))] [] [.inl 0, .inr 0] S1 ?_ ?_
 ·apply jj1
  ·exact ydw rfl wA (Or.inr rfl) (yeu _) rfl
 intro _ a2 _ (S2 : Sta w 27 [] [(3, Is (.func (.func 83) #[] #[])), (0, Mv n A k)] _ _ _)
 refine wp_seq (wp_block ?_)
 refine wq [.val (Mv n A k), .val (iV (n : Nat)), kF, kF, .val (Mv n A k), .val (Is (.func (.func 83) #[] #[])), kF, kF, kF] [] [.inl 8, .inr 1] S2 ?_ ?_
 ·repeat' refine And.intro ?_ ?_
  ·trivial
  ·exact mS 1 0
  ·exact yal rfl wA rfl (oO 0 8) yaw Tryz.underlying22 rfl
  ·exact yb0 wA (oO 1 9) (yaa _)
  ·exact mO 2 10
  ·exact mW (wI 3 11) (oS 1 0)
  ·exact mW (wI 3 11) (oS 0 3)
  ·exact yd3 rfl (wI 3 11) rfl (oO 4 12) ((oO 5 13).imp (ypm (fun args w => by go_simp) (fun i φ ψ h1 h2 w u hu => by obtain ⟨a, ha, rfl⟩ := yba h1; obtain ⟨b, hb, rfl⟩ := yba h2; exact wide_n w u a.length k a hu (hw i a ha)))) (yak _) rfl (fun args w => by go_simp) (fun w u f h hf => has_n w u f n k A h (by omega) lA hf)
  ·exact pF wA (oO 3 11) (oO 6 14)
  ·exact mO 7 15
 intro _ a3 _ (S3 : Sta w 27 [] [(7, bF), (0, Mv n A k)] _ _ _)
 refine wp_cond_false (S3.bool 0 7 rfl) ?_
 refine wq [.val (Mv n A k), .val (iV (n : Nat)), kF, kF] [] [.inl 3, .inr 1] S3 ?_ ?_
 ·apply jj4
  ·exact mS 1 0
  ·exact yal rfl wA rfl (oO 0 17) yaw Tryz.underlying22 rfl
  ·exact ydq wA (oO 1 18) (yaa _)
  ·exact mO 2 19
 intro _ a4 _ (S4 : Sta w 27 [] [(16, bF), (0, Mv n A k)] _ _ _)
 refine wp_cond_false (S4.bool 0 16 rfl) (wp_skip (inBlkN (thenN ?_)))
 refine wq [.val (Mv n A k), .val ((THREE (IS (.int .i64 (n : Nat))) (IS (.int .i64 (x : Nat))) (IS (.int .i64 0))) w.heap.size), .val ((THREE (IS (.int .i64 (n : Nat))) (IS (.int .i64 (x : Nat))) (IS (.int .i64 0))) w.heap.size), .val (iV (n : Nat)), .val (iV (x : Nat)), .val (iV 0), .val (iV (n : Nat)), .val (iV (x : Nat)), .val (iV 0)] [] [.inl 8] S4 ?_ ?_
 ·repeat' refine And.intro ?_ ?_
  ·trivial
  ·exact mS 1 0
  ·exact ch1 wA (qO 0 21 rfl) (ydd (yak _) (yak _) (yak _)) (fun w u h => h_shape_y w u n k x A h (by omega) hR (fun e => by omega))
  ·exact mO 1 22
  ·exact e30 wA (oO 2 20)
  ·exact e31 wA (oO 2 20)
  ·exact e32 wA (oO 2 20)
  ·exact mO 3 23
  ·exact mO 4 24
  ·exact mO 5 25
 intro _ a5 _ (S5 : Sta w 27 [] [(6, iV 0)] _ _ _)
 refine wq [.val (iV 0), .val (iV 0)] [] [.inl 1] S5 ?_ ?_
 ·apply jj2
  ·exact mS 0 6
  ·exact mO 0 26
 intro _ a6 _ (S6 : Sta w 27 [] [(2, iV 0)] _ _ _)
 refine wp_ret ?_
 exact ybe S6 rfl (yay S6 0 2 rfl)
def gwS (Bm : List (List Int)) : Nat → List Int × List (List Int)
 | 0 => ([1], [])
 | i + 1 => ((gwS Bm i).1 ++ [tk (gwS Bm i).1 (lfL (gwS Bm i).1 (gwS Bm i).2 Bm (Bm.getD i []) i) (lfL (gwS Bm i).1 (gwS Bm i).2 Bm (Bm.getD i []) i) (dotR (Bm.getD i []) (Bm.getD i [])) i], (gwS Bm i).2 ++ [lfL (gwS Bm i).1 (gwS Bm i).2 Bm (Bm.getD i []) i])
abbrev gwD (Bm : List (List Int)) (i : Nat) : List Int := (gwS Bm i).1
abbrev gwL (Bm : List (List Int)) (i : Nat) : List (List Int) := (gwS Bm i).2
abbrev gwN (Bm : List (List Int)) (i : Nat) : List Int := lfL (gwD Bm i) (gwL Bm i) Bm (Bm.getD i []) i
abbrev gwd (Bm : List (List Int)) (i : Nat) : Int := tk (gwD Bm i) (gwN Bm i) (gwN Bm i) (dotR (Bm.getD i []) (Bm.getD i [])) i
theorem yh5 (Bm : List (List Int)) (i : Nat) : gwD Bm (i + 1) = gwD Bm i ++ [gwd Bm i] := rfl
theorem ygm (Bm : List (List Int)) (i : Nat) : gwL Bm (i + 1) = gwL Bm i ++ [gwN Bm i] := rfl
theorem yhm (Bm : List (List Int)) : ∀ i, (gwD Bm i).length = i + 1 ∧ (gwL Bm i).length = i
 | 0 => ⟨rfl, rfl⟩
 | i + 1 => by
  obtain ⟨h1, h2⟩ := yhm Bm i
  rw [yh5, ygm]
  simp [h1, h2]
theorem yis (Bm : List (List Int)) : ∀ i j, j < i → ((gwL Bm i).getD j []).length = j
 | i + 1, j, h => by
  have hl := (yhm Bm i).2
  rw [ygm, List.getD_eq_getElem?_getD]
  rcases Nat.lt_or_ge j i with h1 | h1
  ·rw [List.getElem?_append_left (by omega), ← List.getD_eq_getElem?_getD]
   exact yis Bm i j h1
  ·have e : j = i := by omega
   subst e
   rw [List.getElem?_append_right (by omega), hl, Nat.sub_self]
   exact yg7 _ _ _ _ _
def WdOk (Bm : List (List Int)) (n K : Nat) : Prop := ∀ i, i < n → LfOk (gwD Bm i) (gwL Bm i) Bm (Bm.getD i []) i K
theorem one_dl : (digs (1 : Int).natAbs).length ≤ 1 := ya4 (by decide)
theorem gwD_dl {Bm : List (List Int)} {n K : Nat} (hK : 1 ≤ K) (ok : WdOk Bm n K) : ∀ i, i ≤ n → Dl (gwD Bm i) K
 | 0, _ => fun j z h => by
  match j, h with
  | 0, h => have h : ([1] : List Int)[0]? = some z := h; simp at h; rw [← h]; exact Nat.le_trans one_dl hK
  | j + 1, h => have h : ([1] : List Int)[j + 1]? = some z := h; simp at h
 | i + 1, hi => fun j z h => by
  have hl := (yhm Bm i).1
  rw [yh5] at h
  rcases Nat.lt_or_ge j (i + 1) with h1 | h1
  ·rw [List.getElem?_append_left (by omega)] at h
   exact gwD_dl hK ok i (by omega) j z h
  ·rw [List.getElem?_append_right (by omega)] at h
   cases hj : j - (gwD Bm i).length with
   | zero => rw [hj] at h; simp at h; rw [← h]; exact (ok i (by omega)).last.dl i (Nat.le_refl _)
   | succ t => rw [hj] at h; simp at h
theorem gwL_dl {Bm : List (List Int)} {n K : Nat} (ok : WdOk Bm n K) : ∀ i, i ≤ n → Mdl (gwL Bm i) K
 | 0, _ => fun j z h => by have h : ([] : List (List Int))[j]? = some z := h; simp at h
 | i + 1, hi => fun j z h => by
  have hl := (yhm Bm i).2
  rw [ygm] at h
  rcases Nat.lt_or_ge j i with h1 | h1
  ·rw [List.getElem?_append_left (by omega)] at h
   exact gwL_dl ok i (by omega) j z h
  ·rw [List.getElem?_append_right (by omega)] at h
   cases hj : j - (gwL Bm i).length with
   | zero => rw [hj] at h; simp at h; rw [← h]; exact lf_dl (ok i (by omega)) i (Nat.le_refl _)
   | succ t => rw [hj] at h; simp at h
def GN (n : Nat) (D : List Int) (L : List (List Int)) : Nat → Pr := fun lo => SF [VN (n + 1) D lo, MN n L lo]
theorem yqs {a b c d : Pr} (h1 : ∀ v w, a v w → c v w) (h2 : ∀ v w, b v w → d v w) : ∀ v w, SF [a, b] v w → SF [c, d] v w := by
 rintro v w ⟨cs, e, hs, ho, hp⟩
 refine ⟨cs, e, hs, ho, fun f p hf => ?_⟩
 match f, hf with
 | 0, hf => simp at hf; subst hf; obtain ⟨u, hu, ha⟩ := hp 0 a rfl; exact ⟨u, hu, h1 u w ha⟩
 | 1, hf => simp at hf; subst hf; obtain ⟨u, hu, ha⟩ := hp 1 b rfl; exact ⟨u, hu, h2 u w ha⟩
theorem sf_two {a b : Value} {c d : Pr} {w : World} {v : Value} (h : SF [Is a, Is b] v w) (h1 : c a w) (h2 : d b w) : SF [c, d] v w := by
 obtain ⟨cs, e, hs, ho, hp⟩ := h
 refine ⟨cs, e, hs, ho, fun f p hf => ?_⟩
 match f, hf with
 | 0, hf => simp at hf; subst hf; obtain ⟨u, hu, ha⟩ := hp 0 _ rfl; obtain rfl : u = a := ha; exact ⟨u, hu, h1⟩
 | 1, hf => simp at hf; subst hf; obtain ⟨u, hu, ha⟩ := hp 1 _ rfl; obtain rfl : u = b := ha; exact ⟨u, hu, h2⟩
theorem ygi {n : Nat} {D : List Int} {L : List (List Int)} : Fresh (GN n D L) :=
 ⟨fun lo lo' v w hl h => yqs (fun v w h => fresh_vn.mono _ _ v w hl h) (fun v w h => fresh_mn.mono _ _ v w hl h) v w h, fun lo v w w' B hB h ev => by
  obtain ⟨cs, e, hs, ho, hp⟩ := h
  refine ⟨cs, e, hs, ho, fun f p hf => ?_⟩
  match f, hf with
  | 0, hf => simp at hf; subst hf; obtain ⟨u, hu, ha⟩ := hp 0 _ rfl; exact ⟨u, hu, fresh_vn.ev _ u w w' B hB ha ev⟩
  | 1, hf => simp at hf; subst hf; obtain ⟨u, hu, ha⟩ := hp 1 _ rfl; exact ⟨u, hu, fresh_mn.ev _ u w w' B hB ha ev⟩⟩
abbrev chD (lo : Nat) (D : List Int) : List Value → World → Prop := CE 2 ((D.map ZN).map (· lo))
abbrev chL (lo : Nat) (L : List (List Int)) : List Value → World → Prop := CE 1 ((L.map (fun zs => VN zs.length zs)).map (· lo))
structure GS where
 k : Nat
 pd : Option Addr
 cd : Nat
 xd : List Value
 pl : Option Addr
 cl : Nat
 xl : List Value
section
variable {ops : Array Oper} {l : List Kd} {bx : Bxs} {sl : List (Tmp × Pr)} {i : Nat} {o : Oper} {Q : Exit → Act → World → Prop} {a0 : Act} {n : Nat} {w0 : World}
theorem owe_left {x0 x1 x2 : Operand} {ts : Array TypeId} {k1 k2 G1 G2 n0 nb x K : Nat} {pd pl : Option Addr} {cd cl : Nat} {xd xl : List Value} {D R : List Int} {L Bm : List (List Int)} (ho : ops[i]? = some o) (hw : Wants ops l bx sl i o) (hop : o.op = .call { callee := .value (.func 17), args := #[x0, x1, x2], argTypes := ts })
    (h0 : Opnd ops l bx sl i x0 (SF [Is (.slice pd (n0 + 1) cd), Is (.slice pl n0 cl)])) (h1 : Opnd ops l bx sl i x1 (Mv nb Bm K)) (h2 : Opnd ops l bx sl i x2 (Vv x R K))
    (hb1 : bx[k1]? = some (G1, RV w0.heap.size (.slice pd (n0 + 1) cd) 26 2 (n0 + 1) xd (chD w0.heap.size D))) (hu1 : unturned ops l i (.inl G1) = true) (hb2 : bx[k2]? = some (G2, RV w0.heap.size (.slice pl n0 cl) 39 1 n0 xl (chL w0.heap.size L))) (hu2 : unturned ops l i (.inl G2) = true)
    (hD : Dl D K) (hL : Mdl L K) (hnb : n0 ≤ nb) (hn : n0 ≤ 1048000) (hx : x ≤ 1048576) (hK : K ≤ 500000000) (lL : L.length = n0) (lB : Bm.length = nb) (hLl : ∀ j, j < n0 → (L.getD j []).length = j) (hBl : ∀ j, j < n0 → (Bm.getD j []).length = x) (ok : LfOk D L Bm R n0 K)
    (hk : kdAt l i = .val (TWO (VN n0 (lfL D L Bm R n0)) (ZN (tk D (lfL D L Bm R n0) (lfL D L Bm R n0) (dotR R R) n0)) w0.heap.size)) : Owed Tryz.prog ops Q l bx sl a0 n w0 i :=
  ygr ho hw hop hk (fun args w => by go_simp) fun vs B a w c => by
    rw [show (#[x0, x1, x2] : Array Operand).map a.eval = #[a.eval x0, a.eval x1, a.eval x2] from by simp]
    have q1 : Hs w (Vv (n0 + 1) D K) (.slice pd (n0 + 1) cd) := rv_hs (c.box G1 _ (List.mem_of_getElem? hb1) hu1) (fun v w ys ho hc => yju hD v w (ydi (by decide) v w ys ho hc))
    have q2 : Hs w (Mv n0 L K) (.slice pl n0 cl) := rv_hs (c.box G2 _ (List.mem_of_getElem? hb2) hu2) (fun v w ys ho hc => mn_mv hL v w (ydi (by decide) v w ys ho hc))
    have q0 : Hs w (SF [Vv (n0 + 1) D K, Mv n0 L K]) (a.eval x0) := fun w' ev => sf_two ((h0 a0 n w0 vs B a w c).hs w' ev) (q1 w' ev) (q2 w' ev)
    exact (left_w w _ _ _ n0 nb x K D L Bm R q0 (h1 a0 n w0 vs B a w c).hs (h2 a0 n w0 vs B a w c).hs hnb hn hx hK lL lB hLl hBl ok).mono (fun e w' h => yip (ybo fresh_vn (ya1 _)) c h)
end
theorem res_gso {w0 W : World} {n : Nat} {bx : Bxs} {sl : List (Tmp × Pr)} {B : Nat → Prop} {a : Act} (S : Sta w0 n bx sl B a W) (k t k1 k2 : Nat) {G1 G2 m : Nat} {pd pl : Option Addr} {cd cl : Nat} {xd xl : List Value} {D : List Int} {L : List (List Int)} (h : bx[k]? = some (t, .box 42 (SF [Is (.slice pd (m + 1) cd), Is (.slice pl m cl)])))
  (hb1 : bx[k1]? = some (G1, RV w0.heap.size (.slice pd (m + 1) cd) 26 2 (m + 1) xd (chD w0.heap.size D))) (hb2 : bx[k2]? = some (G2, RV w0.heap.size (.slice pl m cl) 39 1 m xl (chL w0.heap.size L))) : ∃ v, (resOf (.cell t 42) a.tmps).run Tryz.prog W = .ok v W ∧ GN m D L w0.heap.size v W := by
 obtain ⟨v, h1, h2⟩ := ybb S k t h ybl yb1
 obtain ⟨o1, _, x1⟩ := yqq (S.box _ (List.mem_of_getElem? hb1))
 obtain ⟨o2, _, x2⟩ := yqq (S.box _ (List.mem_of_getElem? hb2))
 exact ⟨v, h1, sf_two h2 (ydi (by decide) _ W _ o1 (x1 W (Ev.refl _ _))) (ydi (by decide) _ W _ o2 (x2 W (Ev.refl _ _)))⟩
abbrev ycc  : Rk := .box 42 (Is (.agg #[.slice none 0 0, .slice none 0 0]))
abbrev yew (w : World) (Bm : List (List Int)) (g : GS) : Rk := RV w.heap.size (.slice (g.pl) (g.k) (g.cl)) 39 1 (g.k) (g.xl) (CE 1 (((gwL Bm g.k).map (fun zs => VN zs.length zs)).map (· w.heap.size)))
abbrev yem (g : GS) : Rk := .box 42 (SF [(Is (.slice g.pd (g.k + 1) g.cd)), (Is (.slice g.pl g.k g.cl))])
abbrev ygw (w : World) (Bm : List (List Int)) (g : GS) : Rk := RV w.heap.size (.slice (g.pd) (g.k + 1) (g.cd)) 26 2 (g.k + 1) (g.xd) (CE 2 (((gwD Bm g.k).map ZN).map (· w.heap.size)))
abbrev yf5 (w : World) (Bm : List (List Int)) (g : GS) : Pr := (VN (g.k) (gwN Bm g.k)) w.heap.size
theorem wide_all (w : World) (u : Value) (n x K : Nat) (Bm : List (List Int)) (h : Hs w (Mv n Bm K) u) (hn0 : 0 < n) (hn : n ≤ 12) (hx : x ≤ 12) (hK0 : 1 ≤ K) (hK : K ≤ 500000000) (lB : Bm.length = n) (hw : nar Bm) (hR : Reg Bm x) (mm N : Nat) (ok : WdOk Bm N K) (hd : ∀ i, i < mm → gwd Bm i ≠ 0) (psi : Nat → Pr) (hb : (mm = n ∧ N = n ∧ psi = (TWO (GN n (gwD Bm n) (gwL Bm n)) (IS (.int .i64 0)))) ∨ (mm < n ∧ N = mm + 1 ∧ gwd Bm mm = 0 ∧ psi = (TWO (IS (.agg #[.slice none 0 0, .slice none 0 0])) (IS (.int .i64 50))))) :
  Calls Tryz.prog 38 #[u] w (Gives psi w) := by
 have hmn : mm ≤ n := by
  rcases hb with ⟨h8, _⟩ | ⟨h8, _⟩ <;> omega
 refine yam (sl := [(0, (Mv n Bm K))]) Tryz.func38 rfl Tryz.ntmps38 (by simp) (yab rfl (h) yaq) ?_
 intro a0 S0
 refine wq [.new (ycc), .val (iV 0)] [.inl 0] [.inr 0] S0 ?_ ?_
 ·apply jj2
  ·exact yat rfl wA rfl rfl (fun ρ w => ycv ρ _ w)
  ·exact mC
 intro _ a1 _ (S1 : Sta w 50 [(2, (ycc))] [(0, Mv n Bm K)] _ _ _)
 refine wp_seq ?_
 refine wq [.val (Mv n Bm K), .val (iV 0), .val (iV 0)] [.inr 0] [.inl 2, .inr 0] S1 ?_ ?_
 ·apply jj3
  ·exact mS 0 0
  ·exact ch1 wA (qO 0 10 rfl) (yak _) (fun w u h => framed_ok w u n K x Bm h hn0 hn lB hw hR)
  ·exact mO 1 11
 intro _ a2 _ (S2 : Sta w 50 [(2, (ycc))] [(4, iV 0), (0, Mv n Bm K)] _ _ _)
 refine wq [.val (iV 0), kF] [.inr 0] [.inl 1, .inr 0, .inr 1] S2 ?_ ?_
 ·apply jj2
  ·exact mS 0 4
  ·exact ydj wA (oO 0 12) (yaa _) (h := rfl)
 intro _ a3 _ (S3 : Sta w 50 [(2, (ycc))] [(13, bF), (4, iV 0), (0, Mv n Bm K)] _ _ _)
 refine wp_cond_false (S3.bool 0 13 rfl) (wp_skip (thenN (wp_seq ?_)))
 refine wp_cut 2 (by kernel_rfl) ?_
 refine yf3 [.val ((ZN (1)) w.heap.size), .new (.row 26 2 1 (CE 2 (((gwD Bm 0).map ZN).map (· w.heap.size))))] [.inr 0, .inl 1] [.inr 2] S3 rfl (by kernel_rfl) ?_ ?_
 ·apply jj2
  ·exact cc1 wA (yaa _) (ya1 _) (g_zof (1) (by omega) (by omega))
  ·exact owe_newb1 rfl wA rfl yig (oO 0 16) (ya5 (by decide) ya0) rfl
 intro B4 a4 W4 (S4 : Sta w 50 [(2, (ycc)), (17, (.row 26 2 1 (CE 2 (((gwD Bm 0).map ZN).map (· w.heap.size)))))] [(0, Mv n Bm K)] _ _ _)
 refine thenN ?_
 obtain ⟨pd, cd, xd, S5⟩ := S4.tell (bx' := [(2, (ycc))]) 1 1000002 rfl (by simp) (by simp)
 replace S5 : Sta w 50 [(1000002, (RV w.heap.size (.slice pd 1 cd) 26 2 1 xd (CE 2 (((gwD Bm 0).map ZN).map (· w.heap.size))))), (2, (ycc))] [(17, Is (.slice pd 1 cd)), (0, Mv n Bm K)] B4 a4 W4 := S5
 obtain ⟨_, a5, _, e0, e1, e2⟩ : ∃ B a W, B4 = B ∧ a4 = a ∧ W4 = W := ⟨_, _, _, rfl, rfl, rfl⟩
 rw [e0, e1, e2] at S5
 rw [e1, e2]
 clear e0 e1 e2
 refine yf3 [.val (SF [(Is (.slice pd 1 cd)), (Is (.slice none 0 0))]), .new (ycc), .put (.inr 1) (.box 42 (SF [(Is (.slice pd 1 cd)), (Is (.slice none 0 0))]))] [.inr 0, .inr 1, .inl 1] [.inr 1] S5 rfl (by kernel_rfl) ?_ ?_
 ·apply jj3
  ·exact owe_buildG rfl wA rfl (oS 0 17) rfl
  ·exact yat rfl wA rfl rfl (fun ρ w => ycv ρ _ w)
  ·exact ybj 1 rfl wA rfl (by kernel_rfl) rfl (oO 0 18) (yaf ybl yb2 yb1) rfl
 intro B6 a6 W6 (S6 : Sta w 50 [(1000002, (RV w.heap.size (.slice pd 1 cd) 26 2 1 xd (CE 2 (((gwD Bm 0).map ZN).map (· w.heap.size))))), (2, (ycc)), (5, (.box 42 (SF [(Is (.slice pd 1 cd)), (Is (.slice none 0 0))])))] [(0, Mv n Bm K)] _ _ _)
 refine thenN ?_
 obtain ⟨gb, S7⟩ := S6.tellBox 2 rfl
 replace S7 : Sta w 50 [(1000002, (RV w.heap.size (.slice pd 1 cd) 26 2 1 xd (CE 2 (((gwD Bm 0).map ZN).map (· w.heap.size))))), (2, (ycc)), (5, (.box 42 (SF [(Is (.slice pd 1 cd)), (Is (.slice none 0 0))])))] [(5, Is (.pointer (some ⟨gb, 0, none⟩))), (0, Mv n Bm K)] B6 a6 W6 := S7
 obtain ⟨B7, a7, W7, e0, e1, e2⟩ : ∃ B a W, B6 = B ∧ a6 = a ∧ W6 = W := ⟨_, _, _, rfl, rfl, rfl⟩
 rw [e0, e1, e2] at S7
 rw [e1, e2]
 clear e0 e1 e2
 have S8 := S7.tellNil 1000003 39 1 (χ := CE 1 (((gwL Bm 0).map (fun zs => VN zs.length zs)).map (· w.heap.size))) yjx
 replace S8 : Sta w 50 [(1000003, (RV w.heap.size (.slice none 0 0) 39 1 0 ([]) (CE 1 (((gwL Bm 0).map (fun zs => VN zs.length zs)).map (· w.heap.size))))), (1000002, (RV w.heap.size (.slice pd 1 cd) 26 2 1 xd (CE 2 (((gwD Bm 0).map ZN).map (· w.heap.size))))), (2, (ycc)), (5, (.box 42 (SF [(Is (.slice pd 1 cd)), (Is (.slice none 0 0))])))] [(5, Is (.pointer (some ⟨gb, 0, none⟩))), (0, Mv n Bm K)] B7 a7 W7 := S8
 obtain ⟨_, a8, _, e0, e1, e2⟩ : ∃ B a W, B7 = B ∧ a7 = a ∧ W7 = W := ⟨_, _, _, rfl, rfl, rfl⟩
 rw [e0, e1, e2] at S8
 rw [e1, e2]
 clear e0 e1 e2
 refine wp_seq ?_
 refine wq [.val (Mv n Bm K), .val (iV (n : Nat)), .val (iV 0)] [.inr 0, .inr 1, .inr 2, .inr 3] [.inl 0, .inl 1, .inl 2, .inr 0, .inr 1] S8 ?_ ?_
 ·apply jj3
  ·exact mS 1 0
  ·exact yal rfl wA rfl (oO 0 19) yaw Tryz.underlying22 rfl
  ·exact mC
 intro B9 a9 _ (S9 : Sta w 50 [(1000003, (RV w.heap.size (.slice none 0 0) 39 1 0 ([]) (CE 1 (((gwL Bm 0).map (fun zs => VN zs.length zs)).map (· w.heap.size))))), (1000002, (RV w.heap.size (.slice pd 1 cd) 26 2 1 xd (CE 2 (((gwD Bm 0).map ZN).map (· w.heap.size))))), (2, (ycc)), (5, (.box 42 (SF [(Is (.slice pd 1 cd)), (Is (.slice none 0 0))])))] [(19, Mv n Bm K), (20, iV (n : Nat)), (21, iV 0), (5, Is (.pointer (some ⟨gb, 0, none⟩))), (0, Mv n Bm K)] _ _ _)
 refine wp_block ?_
 refine yan (fun (g : GS) a W => (g.k ≤ mm) ∧ ∃ Bq, Sta w 50 [(1000003, (yew w Bm g)), (1000002, (ygw w Bm g)), (2, (ycc)), (5, (yem g))] [(19, Mv n Bm K), (20, iV (n : Nat)), (21, iV (g.k : Nat)), (5, Is (.pointer (some ⟨gb, 0, none⟩))), (0, Mv n Bm K)] Bq a W) (fun (g : GS) => n - g.k) ?_ ⟨0, pd, cd, xd, none, 0, []⟩ ⟨Nat.zero_le _, B9, S9.sub [0, 1, 2, 3] [0, 1, 2, 3, 4]⟩
 rintro g a10 _ ⟨hcond, _, S10⟩
 by_cases hlt : g.k < n
 ·have hrx : (Bm.getD g.k []).length = x := by rw [List.getD_eq_getElem?_getD, List.getElem?_eq_getElem (by omega)]; exact hR g.k _ (List.getElem?_eq_getElem (by omega))
  have hBx : ∀ j, j < g.k → (Bm.getD j []).length = x := fun j hj => by rw [List.getD_eq_getElem?_getD, List.getElem?_eq_getElem (by omega)]; exact hR j _ (List.getElem?_eq_getElem (by omega))
  have hgN : g.k < N := by
   rcases hb with ⟨h8, _⟩ | ⟨h8, _⟩ <;> omega
  refine wq [kT] [.inr 0, .inr 1, .inr 2, .inr 3] [.inl 0, .inr 0, .inr 1, .inr 2, .inr 3, .inr 4] S10 ?_ ?_
  ·apply jj1
   ·exact yar wA (oS 2 21) (oS 1 20)
  intro B11 a11 W11 (S11 : Sta w 50 [(1000003, (yew w Bm g)), (1000002, (ygw w Bm g)), (2, (ycc)), (5, (yem g))] [(22, bT), (19, Mv n Bm K), (20, iV (n : Nat)), (21, iV (g.k : Nat)), (5, Is (.pointer (some ⟨gb, 0, none⟩))), (0, Mv n Bm K)] _ _ _)
  refine wp_seq (wp_cond_true (S11.bool 0 22 rfl) (wp_skip (thenN (wp_seq (wp_block ?_)))))
  refine wq [.val (AtE 1 (Vv x (Bm.getD g.k []) K)), .val (Vv x (Bm.getD g.k []) K), .val (Vv x (Bm.getD g.k []) K)] [.inr 0, .inr 1, .inr 2, .inr 3] [.inl 2, .inr 1, .inr 2, .inr 3, .inr 4, .inr 5] S11 ?_ ?_
  ·apply jj3
   ·exact yae rfl wA rfl ya8 (oS 1 19) (oS 3 21) (by have q := yda (A := Bm) (K := K) (k := g.k) (by omega); rw [hrx] at q; exact q) rfl
   ·exact yag rfl wA rfl ya9 (by decide) yb3 (oO 0 23) rfl
   ·exact mO 1 24
  intro B12 a12 W12 (S12 : Sta w 50 [(1000003, (yew w Bm g)), (1000002, (ygw w Bm g)), (2, (ycc)), (5, (yem g))] [(7, Vv x (Bm.getD g.k []) K), (19, Mv n Bm K), (20, iV (n : Nat)), (21, iV (g.k : Nat)), (5, Is (.pointer (some ⟨gb, 0, none⟩))), (0, Mv n Bm K)] _ _ _)
  refine wq [.val (SF [(Is (.slice g.pd (g.k + 1) g.cd)), (Is (.slice g.pl g.k g.cl))]), .val (Mv n Bm K), .val (Vv x (Bm.getD g.k []) K), .val ((TWO (VN (g.k) (gwN Bm g.k)) (ZN (gwd Bm g.k))) w.heap.size), .val ((TWO (VN (g.k) (gwN Bm g.k)) (ZN (gwd Bm g.k))) w.heap.size), .val (yf5 w Bm g), .val ((ZN (gwd Bm g.k)) w.heap.size), .new (.box 26 zI), .val (yf5 w Bm g), .put (.inr 7) (.box 26 ((ZN (gwd Bm g.k)) w.heap.size))] [.inr 0, .inr 1, .inr 2, .inr 3, .inl 7] [.inl 8, .inr 1, .inr 2, .inr 3, .inr 4, .inr 5] S12 ?_ ?_
  ·repeat' refine And.intro ?_ ?_
   ·trivial
   ·exact lod 3 wA (yau ybl yb1)
   ·exact mS 5 0
   ·exact mS 0 7
   ·exact owe_left (G1 := 1000002) (G2 := 1000003) (k1 := 1) (k2 := 0) rfl wA rfl (oO 0 26) (oO 1 27) (oO 2 28) rfl (by kernel_rfl) rfl (by kernel_rfl) (gwD_dl hK0 ok g.k (by omega)) (gwL_dl ok g.k (by omega)) (by omega) (by omega) (by omega) (by omega) (yhm Bm g.k).2 lB (yis Bm g.k) hBx (ok g.k hgN) rfl
   ·exact mO 3 29
   ·exact e20 wA (oO 4 25)
   ·exact e21 wA (oO 4 25)
   ·exact yat rfl wA rfl rfl (fun ρ w => ybi ρ _ w)
   ·exact mO 5 30
   ·exact ybj 7 rfl wA rfl (by kernel_rfl) rfl (oO 6 31) (yaf yaj ycn ya0) rfl
  intro _ a13 _ (S13 : Sta w 50 [(1000003, (yew w Bm g)), (1000002, (ygw w Bm g)), (2, (ycc)), (5, (yem g)), (9, (.box 26 ((ZN (gwd Bm g.k)) w.heap.size)))] [(8, (yf5 w Bm g)), (19, Mv n Bm K), (20, iV (n : Nat)), (21, iV (g.k : Nat)), (5, Is (.pointer (some ⟨gb, 0, none⟩))), (0, Mv n Bm K)] _ _ _)
  rcases Nat.lt_or_ge g.k mm with hlm | hlm
  ·skip
   have hdz : (gwd Bm g.k).sign ≠ 0 := fun e => hd g.k hlm (Int.sign_eq_zero_iff_zero.1 e)
   refine wp_seq ?_
   refine wq [.val ((ZN (gwd Bm g.k)) w.heap.size), .val (iV ((gwd Bm g.k).sign)), kF] [.inr 0, .inr 1, .inr 2, .inr 3, .inr 4] [.inl 2, .inr 0, .inr 1, .inr 2, .inr 3, .inr 4, .inr 5] S13 ?_ ?_
   ·apply jj3
    ·exact lod 4 wA (yau yaj ya0)
    ·exact ch1 wA (qO 0 32 rfl) (yak _) (fun w u h => yit (k := K) (by omega) w u (ycy ((ok g.k hgN).last.dl g.k (Nat.le_refl _)) _ _ h.now))
    ·exact ydq wA (oO 1 33) (yaa _) (h := hdz)
   intro B14 a14 W14 (S14 : Sta w 50 [(1000003, (yew w Bm g)), (1000002, (ygw w Bm g)), (2, (ycc)), (5, (yem g)), (9, (.box 26 ((ZN (gwd Bm g.k)) w.heap.size)))] [(34, bF), (8, (yf5 w Bm g)), (19, Mv n Bm K), (20, iV (n : Nat)), (21, iV (g.k : Nat)), (5, Is (.pointer (some ⟨gb, 0, none⟩))), (0, Mv n Bm K)] _ _ _)
   refine wp_cond_false (S14.bool 0 34 rfl) (wp_skip (thenN (wp_seq ?_)))
   refine wp_cut 5 (by kernel_rfl) ?_
   refine yf3 [.val (Is (.pointer (some ⟨gb, 0, none⟩))), .val (Is (.slice g.pd (g.k + 1) g.cd)), .val ((ZN (gwd Bm g.k)) w.heap.size), .val (Sng 26 2 ((ZN (gwd Bm g.k)) w.heap.size) w.heap.size), .mov 1000002 (.row 26 2 (g.k + 1 + 1) (CE 2 (((gwD Bm (g.k + 1)).map ZN).map (· w.heap.size))))] [.inr 0, .inr 2, .inr 3, .inl 4] [.inr 1, .inr 2, .inr 3, .inr 4, .inr 5, .inr 6] S14 rfl (by kernel_rfl) ?_ ?_
   ·apply jj5
    ·exact ym2 (x := .tmp 5) rfl wA rfl (oS 5 5) rfl (fun ρ w h1 => ydz ρ _ _ w _ 0 h1)
    ·exact ym1 rfl wA rfl (oO 0 36) (k := 3) rfl (j := 5) rfl (by kernel_rfl) rfl yd8 rfl
    ·exact lod 4 wA (yau yaj ya0)
    ·exact ygp rfl wA rfl yig (oO 2 38) (ya5 (by decide) ya0) rfl
    ·exact yi1 rfl wA rfl (oO 1 37) (k := 1) rfl (by kernel_rfl) ((oO 3 39).imp yhk) ykx Tryz.underlying39 (by decide) ⟨by unfold maxLen; omega, by omega⟩ rfl (fun xs ys w h1 h2 => by rw [yh5, List.map_append, List.map_append]; exact ydy _ _ _ h1 h2)
   intro B15 a15 W15 (S15 : Sta w 50 [(1000003, (yew w Bm g)), (2, (ycc)), (5, (yem g)), (40, (.row 26 2 (g.k + 1 + 1) (CE 2 (((gwD Bm (g.k + 1)).map ZN).map (· w.heap.size)))))] [(8, (yf5 w Bm g)), (19, Mv n Bm K), (20, iV (n : Nat)), (21, iV (g.k : Nat)), (5, Is (.pointer (some ⟨gb, 0, none⟩))), (0, Mv n Bm K)] _ _ _)
   refine thenN ?_
   obtain ⟨pd', cd', xd', S16⟩ := S15.tell (bx' := [(1000003, (yew w Bm g)), (2, (ycc)), (5, (yem g))]) 3 1000002 rfl (by simp) (by simp)
   replace S16 : Sta w 50 [(1000002, (RV w.heap.size (.slice pd' (g.k + 1 + 1) cd') 26 2 (g.k + 1 + 1) xd' (CE 2 (((gwD Bm (g.k + 1)).map ZN).map (· w.heap.size))))), (1000003, (yew w Bm g)), (2, (ycc)), (5, (yem g))] [(40, Is (.slice pd' (g.k + 1 + 1) cd')), (8, (yf5 w Bm g)), (19, Mv n Bm K), (20, iV (n : Nat)), (21, iV (g.k : Nat)), (5, Is (.pointer (some ⟨gb, 0, none⟩))), (0, Mv n Bm K)] B15 a15 W15 := S16
   obtain ⟨_, a16, _, e0, e1, e2⟩ : ∃ B a W, B15 = B ∧ a15 = a ∧ W15 = W := ⟨_, _, _, rfl, rfl, rfl⟩
   rw [e0, e1, e2] at S16
   rw [e1, e2]
   clear e0 e1 e2
   refine yf3 [.val (Is (.pointer (some ⟨gb, 0, none⟩))), .put (.inl 5) (.box 42 (SF [(Is (.slice pd' (g.k + 1 + 1) cd')), (Is (.slice g.pl g.k g.cl))]))] [.inr 0, .inr 1, .inr 2, .inr 3] [.inr 1, .inr 2, .inr 3, .inr 4, .inr 5, .inr 6] S16 rfl (by kernel_rfl) ?_ ?_
   ·apply jj2
    ·exact ym2 (x := .tmp 5) rfl wA rfl (oS 5 5) rfl (fun ρ w h1 => ydz ρ _ _ w _ 0 h1)
    ·exact ypx rfl wA rfl (oO 0 41) (k := 3) rfl (j := 5) rfl (by kernel_rfl) (oS 0 40) ypf (Nat.le_of_ble_eq_true rfl) store1_vec rfl
   intro _ a17 _ (S17 : Sta w 50 [(1000002, (RV w.heap.size (.slice pd' (g.k + 1 + 1) cd') 26 2 (g.k + 1 + 1) xd' (CE 2 (((gwD Bm (g.k + 1)).map ZN).map (· w.heap.size))))), (1000003, (yew w Bm g)), (2, (ycc)), (5, (.box 42 (SF [(Is (.slice pd' (g.k + 1 + 1) cd')), (Is (.slice g.pl g.k g.cl))])))] [(8, (yf5 w Bm g)), (19, Mv n Bm K), (20, iV (n : Nat)), (21, iV (g.k : Nat)), (5, Is (.pointer (some ⟨gb, 0, none⟩))), (0, Mv n Bm K)] _ _ _)
   refine thenN ?_
   refine wp_cut 5 (by kernel_rfl) ?_
   refine yf3 [.val (Is (.pointer (some ⟨gb, 1, none⟩))), .val (Is (.slice g.pl g.k g.cl)), .val (yf5 w Bm g), .val (Sng 39 1 (yf5 w Bm g) w.heap.size), .mov 1000003 (.row 39 1 (g.k + 1) (CE 1 (((gwL Bm (g.k + 1)).map (fun zs => VN zs.length zs)).map (· w.heap.size))))] [.inr 0, .inr 2, .inr 3, .inl 4] [.inr 1, .inr 2, .inr 3, .inr 4, .inr 5] S17 rfl (by kernel_rfl) ?_ ?_
   ·apply jj5
    ·exact ym2 (x := .tmp 5) rfl wA rfl (oS 4 5) rfl (fun ρ w h1 => yed ρ _ _ w _ 0 h1)
    ·exact ym1 rfl wA rfl (oO 0 42) (k := 3) rfl (j := 4) rfl (by kernel_rfl) rfl yet rfl
    ·exact mS 0 8
    ·exact ygp rfl wA rfl bld_row1 (oO 2 44) cel_vn rfl
    ·exact yi1 rfl wA rfl (oO 1 43) (k := 1) rfl (by kernel_rfl) ((oO 3 45).imp yhk) einf_row1 Tryz.underlying22 (by decide) ⟨by unfold maxLen; omega, by omega⟩ rfl (fun xs ys w h1 h2 => by rw [ygm, List.map_append, List.map_append]; exact ydy _ _ _ h1 (by rw [List.map_cons, List.map_cons, yg7]; exact h2))
   intro B18 a18 W18 (S18 : Sta w 50 [(1000002, (RV w.heap.size (.slice pd' (g.k + 1 + 1) cd') 26 2 (g.k + 1 + 1) xd' (CE 2 (((gwD Bm (g.k + 1)).map ZN).map (· w.heap.size))))), (2, (ycc)), (5, (.box 42 (SF [(Is (.slice pd' (g.k + 1 + 1) cd')), (Is (.slice g.pl g.k g.cl))]))), (46, (.row 39 1 (g.k + 1) (CE 1 (((gwL Bm (g.k + 1)).map (fun zs => VN zs.length zs)).map (· w.heap.size)))))] [(19, Mv n Bm K), (20, iV (n : Nat)), (21, iV (g.k : Nat)), (5, Is (.pointer (some ⟨gb, 0, none⟩))), (0, Mv n Bm K)] _ _ _)
   refine thenN ?_
   obtain ⟨pl', cl', xl', S19⟩ := S18.tell (bx' := [(1000002, (RV w.heap.size (.slice pd' (g.k + 1 + 1) cd') 26 2 (g.k + 1 + 1) xd' (CE 2 (((gwD Bm (g.k + 1)).map ZN).map (· w.heap.size))))), (2, (ycc)), (5, (.box 42 (SF [(Is (.slice pd' (g.k + 1 + 1) cd')), (Is (.slice g.pl g.k g.cl))])))]) 3 1000003 rfl (by simp) (by simp)
   replace S19 : Sta w 50 [(1000003, (RV w.heap.size (.slice pl' (g.k + 1) cl') 39 1 (g.k + 1) xl' (CE 1 (((gwL Bm (g.k + 1)).map (fun zs => VN zs.length zs)).map (· w.heap.size))))), (1000002, (RV w.heap.size (.slice pd' (g.k + 1 + 1) cd') 26 2 (g.k + 1 + 1) xd' (CE 2 (((gwD Bm (g.k + 1)).map ZN).map (· w.heap.size))))), (2, (ycc)), (5, (.box 42 (SF [(Is (.slice pd' (g.k + 1 + 1) cd')), (Is (.slice g.pl g.k g.cl))])))] [(46, Is (.slice pl' (g.k + 1) cl')), (19, Mv n Bm K), (20, iV (n : Nat)), (21, iV (g.k : Nat)), (5, Is (.pointer (some ⟨gb, 0, none⟩))), (0, Mv n Bm K)] B18 a18 W18 := S19
   obtain ⟨_, a19, _, e0, e1, e2⟩ : ∃ B a W, B18 = B ∧ a18 = a ∧ W18 = W := ⟨_, _, _, rfl, rfl, rfl⟩
   rw [e0, e1, e2] at S19
   rw [e1, e2]
   clear e0 e1 e2
   refine yf3 [.val (Is (.pointer (some ⟨gb, 1, none⟩))), .put (.inl 5) (.box 42 (SF [(Is (.slice pd' (g.k + 1 + 1) cd')), (Is (.slice pl' (g.k + 1) cl'))]))] [.inr 0, .inr 1, .inr 2, .inr 3] [.inr 1, .inr 2, .inr 3, .inr 4, .inr 5] S19 rfl (by kernel_rfl) ?_ ?_
   ·apply jj2
    ·exact ym2 (x := .tmp 5) rfl wA rfl (oS 4 5) rfl (fun ρ w h1 => yed ρ _ _ w _ 0 h1)
    ·exact ypx rfl wA rfl (oO 0 47) (k := 3) rfl (j := 4) rfl (by kernel_rfl) (oS 0 46) ypf (Nat.le_of_ble_eq_true rfl) store1_mat rfl
   intro _ a20 _ (S20 : Sta w 50 [(1000003, (RV w.heap.size (.slice pl' (g.k + 1) cl') 39 1 (g.k + 1) xl' (CE 1 (((gwL Bm (g.k + 1)).map (fun zs => VN zs.length zs)).map (· w.heap.size))))), (1000002, (RV w.heap.size (.slice pd' (g.k + 1 + 1) cd') 26 2 (g.k + 1 + 1) xd' (CE 2 (((gwD Bm (g.k + 1)).map ZN).map (· w.heap.size))))), (2, (ycc)), (5, (.box 42 (SF [(Is (.slice pd' (g.k + 1 + 1) cd')), (Is (.slice pl' (g.k + 1) cl'))])))] [(19, Mv n Bm K), (20, iV (n : Nat)), (21, iV (g.k : Nat)), (5, Is (.pointer (some ⟨gb, 0, none⟩))), (0, Mv n Bm K)] _ _ _)
   refine inBlkN (thenN ?_)
   refine wr [.val (iV (g.k + 1 : Nat)), .val (iV (g.k + 1 : Nat))] [.inr 0, .inr 1, .inr 2, .inr 3] [.inl 1, .inr 0, .inr 1, .inr 3, .inr 4] S20 ?_ ?_
   ·apply jj2
    ·exact ya3 wA (oS 2 21) (yaa _)
    ·exact mO 0 48
   intro B21 a21 _ (S21 : Sta w 50 [(1000003, (RV w.heap.size (.slice pl' (g.k + 1) cl') 39 1 (g.k + 1) xl' (CE 1 (((gwL Bm (g.k + 1)).map (fun zs => VN zs.length zs)).map (· w.heap.size))))), (1000002, (RV w.heap.size (.slice pd' (g.k + 1 + 1) cd') 26 2 (g.k + 1 + 1) xd' (CE 2 (((gwD Bm (g.k + 1)).map ZN).map (· w.heap.size))))), (2, (ycc)), (5, (.box 42 (SF [(Is (.slice pd' (g.k + 1 + 1) cd')), (Is (.slice pl' (g.k + 1) cl'))])))] [(21, iV (g.k + 1 : Nat)), (19, Mv n Bm K), (20, iV (n : Nat)), (5, Is (.pointer (some ⟨gb, 0, none⟩))), (0, Mv n Bm K)] _ _ _)
   refine thenN ?_
   exact ⟨⟨g.k + 1, pd', cd', xd', pl', cl', xl'⟩, ⟨(by show g.k + 1 ≤ mm; omega), B21, S21.sub [0, 1, 2, 3] [1, 2, 0, 3, 4]⟩, (by show n - (g.k + 1) < n - g.k; omega)⟩
  ·skip
   obtain ⟨ek, hdz, rfl⟩ : g.k = mm ∧ (gwd Bm g.k).sign = 0 ∧ psi = (TWO (IS (.agg #[.slice none 0 0, .slice none 0 0])) (IS (.int .i64 50))) := by
    have ek : g.k = mm := by omega
    rcases hb with ⟨h9, _⟩ | ⟨_, _, h8, h7⟩
    ·exfalso; omega
    ·exact ⟨ek, by rw [ek, h8]; rfl, h7⟩
   refine wp_seq ?_
   refine wq [.val ((ZN (gwd Bm g.k)) w.heap.size), .val (iV ((gwd Bm g.k).sign)), kT] [.inr 0, .inr 1, .inr 2, .inr 3, .inr 4] [.inl 2, .inr 0, .inr 1, .inr 2, .inr 3, .inr 4, .inr 5] S13 ?_ ?_
   ·apply jj3
    ·exact lod 4 wA (yau yaj ya0)
    ·exact ch1 wA (qO 0 32 rfl) (yak _) (fun w u h => yit (k := K) (by omega) w u (ycy ((ok g.k hgN).last.dl g.k (Nat.le_refl _)) _ _ h.now))
    ·exact yd4 wA (oO 1 33) (yaa _) (h := hdz)
   intro B14 a14 W14 (S14 : Sta w 50 [(1000003, (yew w Bm g)), (1000002, (ygw w Bm g)), (2, (ycc)), (5, (yem g)), (9, (.box 26 ((ZN (gwd Bm g.k)) w.heap.size)))] [(34, bT), (8, (yf5 w Bm g)), (19, Mv n Bm K), (20, iV (n : Nat)), (21, iV (g.k : Nat)), (5, Is (.pointer (some ⟨gb, 0, none⟩))), (0, Mv n Bm K)] _ _ _)
   refine wp_cond_true (S14.bool 0 34 rfl) ?_
   refine wq [.val (Is (.agg #[.slice none 0 0, .slice none 0 0])), .put (.inl 2) (ycc), .val (iV 50)] [.inr 0, .inr 1, .inr 2, .inr 3] [.inl 2, .inr 2, .inr 3, .inr 4, .inr 5, .inr 6] S14 ?_ ?_
   ·apply jj3
    ·exact ye9 rfl wA rfl rfl
    ·exact ya7 rfl wA rfl (k := 2) rfl (by kernel_rfl) (oO 0 35) (yaf ybl yb2 yb2) rfl
    ·exact mC
   intro B15 a15 W15 (S15 : Sta w 50 [(1000003, (yew w Bm g)), (1000002, (ygw w Bm g)), (2, (ycc)), (5, (yem g))] [(3, iV 50), (19, Mv n Bm K), (20, iV (n : Nat)), (21, iV (g.k : Nat)), (5, Is (.pointer (some ⟨gb, 0, none⟩))), (0, Mv n Bm K)] _ _ _)
   refine wp_ret (thenR (inBlkR (thenR (thenR (inBlkR (thenR ?_))))))
   exact yc8 S15 rfl (ybb S15 2 2 rfl ybl yb2) (yay S15 0 3 rfl)
 ·obtain ⟨ek, rfl⟩ : g.k = n ∧ psi = (TWO (GN n (gwD Bm n) (gwL Bm n)) (IS (.int .i64 0))) := by
   rcases hb with ⟨h8, _, h7⟩ | ⟨h8, _⟩
   ·exact ⟨by omega, h7⟩
   ·exfalso; omega
  refine wq [kF] [.inr 0, .inr 1, .inr 2, .inr 3] [.inl 0, .inr 0, .inr 1, .inr 2, .inr 3, .inr 4] S10 ?_ ?_
  ·apply jj1
   ·exact yaz wA (oS 2 21) (oS 1 20)
  intro B11 a11 W11 (S11 : Sta w 50 [(1000003, (yew w Bm g)), (1000002, (ygw w Bm g)), (2, (ycc)), (5, (yem g))] [(22, bF), (19, Mv n Bm K), (20, iV (n : Nat)), (21, iV (g.k : Nat)), (5, Is (.pointer (some ⟨gb, 0, none⟩))), (0, Mv n Bm K)] _ _ _)
  refine wp_seq (wp_cond_false (S11.bool 0 22 rfl) (wp_exit (thenX (thenX (inBlkE (thenN ?_))))))
  refine wq [.val (SF [(Is (.slice g.pd (g.k + 1) g.cd)), (Is (.slice g.pl g.k g.cl))]), .put (.inl 2) (yem g), .val (iV 0)] [.inr 0, .inr 1, .inr 2, .inr 3] [.inl 2, .inr 1, .inr 2, .inr 3, .inr 4, .inr 5] S11 ?_ ?_
  ·apply jj3
   ·exact lod 3 wA (yau ybl yb1)
   ·exact ya7 rfl wA rfl (k := 2) rfl (by kernel_rfl) (oO 0 49) (yaf ybl yb2 yb1) rfl
   ·exact mC
  intro B12 a12 W12 (S12 : Sta w 50 [(1000003, (yew w Bm g)), (1000002, (ygw w Bm g)), (2, (yem g)), (5, (yem g))] [(3, iV 0), (19, Mv n Bm K), (20, iV (n : Nat)), (21, iV (g.k : Nat)), (5, Is (.pointer (some ⟨gb, 0, none⟩))), (0, Mv n Bm K)] _ _ _)
  refine wp_ret ?_
  exact yc8 S12 rfl (by have q := res_gso S12 2 2 1 0 rfl rfl rfl; rw [ek] at q; exact q) (yay S12 0 3 rfl)
theorem wide_ok (w : World) (u : Value) (n x K : Nat) (Bm : List (List Int)) (h : Hs w (Mv n Bm K) u) (hn0 : 0 < n) (hn : n ≤ 12) (hx : x ≤ 12) (hK0 : 1 ≤ K) (hK : K ≤ 500000000) (lB : Bm.length = n) (hw : nar Bm) (hR : Reg Bm x) (ok : WdOk Bm n K) (hd : ∀ i, i < n → gwd Bm i ≠ 0) :
  Calls Tryz.prog 38 #[u] w (Gives (TWO (GN n (gwD Bm n) (gwL Bm n)) (IS (.int .i64 0))) w) := wide_all w u n x K Bm h hn0 hn hx hK0 hK lB hw hR n n ok hd _ (Or.inl ⟨rfl, rfl, rfl⟩)
theorem wide_dep (w : World) (u : Value) (n x K : Nat) (Bm : List (List Int)) (h : Hs w (Mv n Bm K) u) (i0 : Nat) (hi0 : i0 < n) (hn0 : 0 < n) (hn : n ≤ 12) (hx : x ≤ 12) (hK0 : 1 ≤ K) (hK : K ≤ 500000000) (lB : Bm.length = n) (hw : nar Bm) (hR : Reg Bm x) (ok : WdOk Bm (i0 + 1) K) (hd : ∀ i, i < i0 → gwd Bm i ≠ 0) (hz : gwd Bm i0 = 0) :
  Calls Tryz.prog 38 #[u] w (Gives (TWO (IS (.agg #[.slice none 0 0, .slice none 0 0])) (IS (.int .i64 50))) w) := wide_all w u n x K Bm h hn0 hn hx hK0 hK lB hw hR i0 (i0 + 1) ok hd _ (Or.inr ⟨hi0, rfl, hz, rfl⟩)
end Go.Proofs.YtdiagoaakadniaaGreat
