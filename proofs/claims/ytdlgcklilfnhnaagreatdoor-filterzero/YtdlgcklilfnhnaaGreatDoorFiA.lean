import Derived.Test.YtdlgcklilfnhnaaGreatDoorGsD
import Derived.Test.YtdlgcklilfnhnaaGreatDoorHxA
import Derived.Test.YtdlgcklilfnhnaaGreatDoorGsB
import Derived.Test.YtdlgcklilfnhnaaGreatDoorVcA
/-
  The norm of a suffix as package filter reckons it: one numerator, what did not come out even beside it.
-/
namespace Go.Proofs.YtdlgcklilfnhnaaGreatDoor
open Go Go.RowKit Nt
set_option linter.unusedSimpArgs false
set_option linter.unusedVariables false
set_option maxRecDepth 20000

/-- Over the first k shifts: each times its row's number with i. -/
def fbL (sh : List Int) (L : List (List Int)) (n i : Nat) : Nat → List Int
  | 0 => []
  | k + 1 => fbL sh L n i k ++ [sh.getD k 0 * (L.getD (n - 1 - k) []).getD i 0]
theorem fbL_len (sh : List Int) (L : List (List Int)) (n i : Nat) : ∀ k, (fbL sh L n i k).length = k
  | 0 => rfl
  | k + 1 => by simp [fbL, fbL_len sh L n i k]
/-- D (i + 1) times the sum w (i), i being the row of the shift k. -/
def fW (D sh : List Int) (L : List (List Int)) (n k : Nat) : Int := sh.getD k 0 * D.getD (n - 1 - k + 1) 0 + sumZ (fbL sh L n (n - 1 - k) k)
/-- What is divided next. -/
def fM (D sh : List Int) (L : List (List Int)) (n k : Nat) (p : Int × Int) : Int := p.1 * D.getD (n - 1 - k) 0 + p.2 * (fW D sh L n k * fW D sh L n k)
/-- The numerator, and what gathers beside it. -/
def fS (D sh : List Int) (L : List (List Int)) (n : Nat) : Nat → Int × Int
  | 0 => (0, 1)
  | k + 1 => if rm (fM D sh L n k (fS D sh L n k)) (D.getD (n - 1 - k + 1) 0) = 0 then (fl (fM D sh L n k (fS D sh L n k)) (D.getD (n - 1 - k + 1) 0), (fS D sh L n k).2) else (fM D sh L n k (fS D sh L n k), (fS D sh L n k).2 * D.getD (n - 1 - k + 1) 0)
/-- The D of the last row taken. -/
def fD (D : List Int) (n : Nat) : Nat → Int
  | 0 => 1
  | k + 1 => D.getD (n - 1 - k) 0
end Go.Proofs.YtdlgcklilfnhnaaGreatDoor

/-
  Package filter's struct of data, a target and a denominator.
-/
namespace Go.Proofs.YtdlgcklilfnhnaaGreatDoor
open Go Go.RowKit Nt
set_option linter.unusedSimpArgs false
set_option linter.unusedVariables false
set_option maxRecDepth 20000

/-- The data's two lists, the target's list, the denominator. -/
def AM (pd pl pt pz : Pr) : Pr := fun v w => ∃ x y t p q, v = .agg #[x, y, t, p, q] ∧ (#[x, y, t, p, q] : Array Value).all (·.oneCell') = true ∧ pd x w ∧ pl y w ∧ pt t w ∧ pz (.agg #[p, q]) w
theorem shp_am {pd pl pt pz : Pr} : Shp 5 (AM pd pl pt pz) := fun u w ⟨x, y, t, p, q, e, h, _⟩ => ⟨_, e, rfl, h⟩
theorem shp_a0 : Shp 5 (Is (.agg #[.slice none 0 0, .slice none 0 0, .slice none 0 0, .bool false, .slice none 0 0])) := fun u w h => ⟨_, h, rfl, by simp [Value.oneCell']⟩
theorem am_imp {pd pl pt pz pd' pl' pt' pz' : Pr} (h1 : ∀ v w, pd v w → pd' v w) (h2 : ∀ v w, pl v w → pl' v w) (h3 : ∀ v w, pt v w → pt' v w) (h4 : ∀ v w, pz v w → pz' v w) : ∀ v w, AM pd pl pt pz v w → AM pd' pl' pt' pz' v w :=
  fun v w ⟨x, y, t, p, q, e, h, a, b, c, d⟩ => ⟨x, y, t, p, q, e, h, h1 _ _ a, h2 _ _ b, h3 _ _ c, h4 _ _ d⟩
theorem strct_aim : Strct 34 5 := ⟨⟨_, Tryz.underlying34, rfl⟩, by kernel_rfl⟩
theorem alloc_aim (ρ : Operand → Value) (o : Oper) (w : World) : (execOp ρ { o with op := .alloc 34 }).run Tryz.prog w = .ok (.value (.pointer (some ⟨w.heap.size, 0, none⟩))) (w.alloc (.cells (Value.agg #[.slice none 0 0, .slice none 0 0, .slice none 0 0, .bool false, .slice none 0 0]).cells 34 (0, 0))) := by
  unfold execOp
  go_simp
theorem box_aim {φ : Pr} (h : Shp 5 φ) (ρ : Operand → Value) (o : Oper) (x : Operand) (w : World) (hφ : φ (ρ x) w) : (execOp ρ { o with op := .box 34 x }).run Tryz.prog w = .ok (.value (.pointer (some ⟨w.heap.size, 0, none⟩))) (w.alloc (.cells (ρ x).cells 34 (0, 0))) := by
  obtain ⟨cs, e, h1, h2⟩ := h _ _ hφ
  unfold execOp
  rw [e]
  go_simp
theorem part_aim0 (ρ : Operand → Value) (o : Oper) (x : Operand) (w : World) (b f : Nat) (h : ρ x = .pointer (some ⟨b, f, none⟩)) : (execOp ρ { o with op := .fieldAddr 34 x 0 }).run Tryz.prog w = .ok (.value (.pointer (some ⟨b, f, none⟩))) w := by
  unfold execOp
  go_simp
theorem part_aim1 (ρ : Operand → Value) (o : Oper) (x : Operand) (w : World) (b f : Nat) (h : ρ x = .pointer (some ⟨b, f, none⟩)) : (execOp ρ { o with op := .fieldAddr 34 x 1 }).run Tryz.prog w = .ok (.value (.pointer (some ⟨b, f + 2, none⟩))) w := by
  unfold execOp
  go_simp
theorem part_aim2 (ρ : Operand → Value) (o : Oper) (x : Operand) (w : World) (b f : Nat) (h : ρ x = .pointer (some ⟨b, f, none⟩)) : (execOp ρ { o with op := .fieldAddr 34 x 2 }).run Tryz.prog w = .ok (.value (.pointer (some ⟨b, f + 3, none⟩))) w := by
  unfold execOp
  go_simp
theorem pload_am0 {pd pl pt pz : Pr} (ρ : Operand → Value) (o : Oper) (x : Operand) (w : World) (b : Nat) (u : Value) (hφ : AM pd pl pt pz u w) (hx : ρ x = .pointer (some ⟨b, 0, none⟩)) (hb : w.heap[b]? = some (.cells u.cells 34 (0, 0))) :
    ∃ v, (execOp ρ { o with op := .load 22 x }).run Tryz.prog w = .ok (.value v) w ∧ ∀ w', AM pd pl pt pz u w' → pd v w' := by
  obtain ⟨x0, x1, x2, x3, x4, rfl, ho, _⟩ := hφ
  refine ⟨x0, load1_vec ρ w o x b 0 x0 hx ((cell_of hb).trans rfl), fun w' ⟨y0, y1, y2, y3, y4, e, _, h, _⟩ => ?_⟩
  simp at e
  rw [e.1]
  exact h
theorem pload_am1 {pd pl pt pz : Pr} (ρ : Operand → Value) (o : Oper) (x : Operand) (w : World) (b : Nat) (u : Value) (hφ : AM pd pl pt pz u w) (hx : ρ x = .pointer (some ⟨b, 1, none⟩)) (hb : w.heap[b]? = some (.cells u.cells 34 (0, 0))) :
    ∃ v, (execOp ρ { o with op := .load 30 x }).run Tryz.prog w = .ok (.value v) w ∧ ∀ w', AM pd pl pt pz u w' → pl v w' := by
  obtain ⟨x0, x1, x2, x3, x4, rfl, ho, _⟩ := hφ
  refine ⟨x1, load1_mat ρ w o x b 1 x1 hx ((cell_of hb).trans rfl), fun w' ⟨y0, y1, y2, y3, y4, e, _, _, h, _⟩ => ?_⟩
  simp at e
  rw [e.2.1]
  exact h
theorem pload_am2 {pd pl pt pz : Pr} (ρ : Operand → Value) (o : Oper) (x : Operand) (w : World) (b : Nat) (u : Value) (hφ : AM pd pl pt pz u w) (hx : ρ x = .pointer (some ⟨b, 2, none⟩)) (hb : w.heap[b]? = some (.cells u.cells 34 (0, 0))) :
    ∃ v, (execOp ρ { o with op := .load 22 x }).run Tryz.prog w = .ok (.value v) w ∧ ∀ w', AM pd pl pt pz u w' → pt v w' := by
  obtain ⟨x0, x1, x2, x3, x4, rfl, ho, _⟩ := hφ
  refine ⟨x2, load1_vec ρ w o x b 2 x2 hx ((cell_of hb).trans rfl), fun w' ⟨y0, y1, y2, y3, y4, e, _, _, _, h, _⟩ => ?_⟩
  simp at e
  rw [e.2.2.1]
  exact h
theorem pload_am3 {pd pl pt pz : Pr} (ρ : Operand → Value) (o : Oper) (x : Operand) (w : World) (b : Nat) (u : Value) (hφ : AM pd pl pt pz u w) (hx : ρ x = .pointer (some ⟨b, 3, none⟩)) (hb : w.heap[b]? = some (.cells u.cells 34 (0, 0))) :
    ∃ v, (execOp ρ { o with op := .load 25 x }).run Tryz.prog w = .ok (.value v) w ∧ ∀ w', AM pd pl pt pz u w' → pz v w' := by
  obtain ⟨x0, x1, x2, x3, x4, rfl, ho, _⟩ := hφ
  refine ⟨.agg #[x3, x4], load_mid hx ((cell_of hb).trans rfl) ((cell_of hb).trans rfl), fun w' ⟨y0, y1, y2, y3, y4, e, _, _, _, _, h⟩ => ?_⟩
  simp at e
  rw [e.2.2.2.1, e.2.2.2.2]
  exact h
/-- The aim of data that came in as these very lists. -/
def AMI (x y : Value) (n : Nat) (τ : List Int) (d : Int) : Nat → Pr := fun lo => AM (Is x) (Is y) (VN n τ lo) (ZN d lo)
theorem fresh_ami {x y : Value} {n : Nat} {τ : List Int} {d : Int} : Fresh (AMI x y n τ d) :=
  ⟨fun lo lo' v w hl h => am_imp (fun _ _ h => h) (fun _ _ h => h) (fun v w h => fresh_vn.mono _ _ v w hl h) (fun v w h => (fresh_zn d).mono _ _ v w hl h) v w h, fun lo v w w' B hB ⟨a, b, t, p, q, e, h, h1, h2, h3, h4⟩ ev => ⟨a, b, t, p, q, e, h, h1, h2, fresh_vn.ev _ _ _ _ B hB h3 ev, (fresh_zn d).ev _ _ _ _ B hB h4 ev⟩⟩
section
variable {ops : Array Oper} {l : List Kd} {bx : Bxs} {sl : List (Tmp × Pr)} {i : Nat} {o : Oper} {Q : Exit → Act → World → Prop} {a0 : Act} {n : Nat} {w0 : World}
/-- The struct is made of its fields. -/
theorem owe_build_am {x y z : Operand} {pd pl pt pz : Pr} (ho : ops[i]? = some o) (hw : Wants ops l bx sl i o) (hop : o.op = .build 34 #[(0, x), (1, y), (2, z)]) (hx : Opnd ops l bx sl i x (SF [pd, pl])) (hy : Opnd ops l bx sl i y pt) (hz : Opnd ops l bx sl i z pz) (ht : ∀ v w, pt v w → ∃ p m c, v = .slice p m c) (hS : Shp 2 pz) (hk : kdAt l i = .val (AM pd pl pt pz)) : Owed Tryz.prog ops Q l bx sl a0 n w0 i :=
  owe_val ho hw hk fun vs B a w c => by
    have h1 := hx a0 n w0 vs B a w c
    have h2 := hy a0 n w0 vs B a w c
    have h3 := hz a0 n w0 vs B a w c
    obtain ⟨cs, e1, c1, c2, _⟩ := id h1.now
    obtain ⟨ds, e3, d1, d2⟩ := hS _ _ h3.now
    obtain ⟨py, my, cy, ey⟩ := ht _ _ h2.now
    have hone : (a.eval y).oneCell' = true := by rw [ey]; rfl
    match cs, c1, e1, c2 with
    | ⟨[x0, x1]⟩, _, e1, c2 =>
      match ds, d1, e3, d2 with
      | ⟨[z0, z1]⟩, _, e3, d2 =>
        have hall : (#[x0, x1, a.eval y, z0, z1] : Array Value).all (·.oneCell') = true := by
          simp at c2 d2 ⊢
          exact ⟨c2.1, c2.2, hone, d2.1, d2.2⟩
        refine ⟨.agg #[x0, x1, a.eval y, z0, z1], ?_, fun w' e' => ⟨x0, x1, a.eval y, z0, z1, rfl, hall, ?_, ?_, h2 w' e', e3 ▸ h3 w' e'⟩⟩
        · unfold execOp
          rw [hop]
          have c3 : x0.oneCell' = true ∧ x1.oneCell' = true := by simpa using c2
          have d3 : z0.oneCell' = true ∧ z1.oneCell' = true := by simpa using d2
          clear h1 h2 h3 hx hy hz hall c2 d2
          generalize a.eval = ρ at e1 e3 ey hone
          obtain ⟨c4, c5⟩ := c3
          obtain ⟨d4, d5⟩ := d3
          go_simp
        · obtain ⟨cs', e4, _, _, h4⟩ := h1 w' e'
          rw [e1] at e4
          simp at e4
          subst e4
          obtain ⟨u, hu, hp⟩ := h4 0 _ rfl
          simp at hu
          subst hu
          exact hp
        · obtain ⟨cs', e4, _, _, h4⟩ := h1 w' e'
          rw [e1] at e4
          simp at e4
          subst e4
          obtain ⟨u, hu, hp⟩ := h4 1 _ rfl
          simp at hu
          subst hu
          exact hp
end
end Go.Proofs.YtdlgcklilfnhnaaGreatDoor

/-
  Package filter's rows, next, behind, shifts, norm.
-/
namespace Go.Proofs.YtdlgcklilfnhnaaGreatDoor
open Go Go.RowKit Nt
set_option linter.unusedSimpArgs false
set_option linter.unusedVariables false
set_option maxRecDepth 20000


theorem fbL_get {sh : List Int} {L : List (List Int)} {n i : Nat} : ∀ {m k : Nat}, k < m → (fbL sh L n i m)[k]? = some (sh.getD k 0 * (L.getD (n - 1 - k) []).getD i 0)
  | m + 1, k, h => by
    have hl := fbL_len sh L n i m
    rw [fbL]
    rcases Nat.lt_or_ge k m with h1 | h1
    · rw [List.getElem?_append_left (by omega)]
      exact fbL_get h1
    · obtain rfl : k = m := by omega
      rw [List.getElem?_append_right (by omega), hl, Nat.sub_self]
      rfl
theorem fbL_take (sh : List Int) (L : List (List Int)) (n i : Nat) {k : Nat} : ∀ m, m ≤ k → fbL (sh.take k) L n i m = fbL sh L n i m
  | 0, _ => rfl
  | m + 1, h => by
    have e : (sh.take k).getD m 0 = sh.getD m 0 := by rw [List.getD_eq_getElem?_getD, List.getElem?_take, if_pos (by omega), ← List.getD_eq_getElem?_getD]
    rw [fbL, fbL, fbL_take sh L n i m (by omega), e]
theorem fbL_dl {sh : List Int} {L : List (List Int)} {Ks K : Nat} (hs : Dl sh Ks) (hL : Mdl L K) (n i k : Nat) : Dl (fbL sh L n i k) (Ks + K) := fun j z h => by
  have hl := fbL_len sh L n i k
  have hj : j < k := by have := (List.getElem?_eq_some_iff.1 h).1; omega
  rw [fbL_get hj] at h
  simp only [Option.some.injEq] at h
  rw [← h, Int.natAbs_mul]
  exact digs_mul_len (dl_getD hs _) (dl_getD (mdl_getD hL _) _)
/-- The denominator times the shifts. -/
def shL (x : List Int) (dn : Int) (τ : List Int) (n : Nat) : Nat → List Int
  | 0 => []
  | k + 1 => shL x dn τ n k ++ [x.getD k 0 * dn - τ.getD (n - 1 - k) 0]
theorem shL_len (x : List Int) (dn : Int) (τ : List Int) (n : Nat) : ∀ k, (shL x dn τ n k).length = k
  | 0 => rfl
  | k + 1 => by simp [shL, shL_len x dn τ n k]
theorem shL_get {x : List Int} {dn : Int} {τ : List Int} {n : Nat} : ∀ {m k : Nat}, k < m → (shL x dn τ n m)[k]? = some (x.getD k 0 * dn - τ.getD (n - 1 - k) 0)
  | m + 1, k, h => by
    have hl := shL_len x dn τ n m
    rw [shL]
    rcases Nat.lt_or_ge k m with h1 | h1
    · rw [List.getElem?_append_left (by omega)]
      exact shL_get h1
    · obtain rfl : k = m := by omega
      rw [List.getElem?_append_right (by omega), hl, Nat.sub_self]
      rfl
theorem am_mdl {nD nL nT K : Nat} {D : List Int} {L : List (List Int)} {τ : List Int} {dn : Int} {u : Value} {w : World} (h : AM (Vv nD D K) (Mv nL L K) (Vv nT τ K) (Zv dn K) u w) : Dl D K ∧ Mdl L K ∧ Dl τ K ∧ (digs dn.natAbs).length ≤ K := by
  obtain ⟨_, _, _, _, _, _, _, a, b, c, d⟩ := h
  exact ⟨vv_dl a, mv_mdl b, vv_dl c, zv_dl d⟩

set_option maxHeartbeats 400000 in
theorem arows_w (w : World) (u : Value) (nD nL nT K : Nat) (D : List Int) (L : List (List Int)) (τ : List Int) (dn : Int) (h : Hs w (AM (Vv nD D K) (Mv nL L K) (Vv nT τ K) (Zv dn K)) u) (hD : nD ≤ 1048576) (hL : nL ≤ 1048576) (hT : nT ≤ 1048576) (hK : K ≤ 1048576) (lD : D.length = nD) (lL : L.length = nL) (lT : τ.length = nT) :
    Calls Tryz.prog 32 #[u] w (Gives (IS (.int .i64 (nL : Nat))) w) := by
  refine calls_sta (sl := [(0, (AM (Vv nD D K) (Mv nL L K) (Vv nT τ K) (Zv dn K)))]) Tryz.func32 rfl Tryz.ntmps32 (by simp) (args_cons rfl (h) args_nil) ?_
  intro a0 S0
  refine wp_stmt_seq [.new (.box 34 (AM (Vv nD D K) (Mv nL L K) (Vv nT τ K) (Zv dn K))), .val (iV 0)] [.inl 0] [] follows S0 rfl (by kernel_rfl) ?_ ?_
  · refine ⟨⟨trivial, ?_⟩, ?_⟩
    · exact owe_box rfl wA rfl (oS 0 0) rfl (fun ρ w h => box_aim shp_am ρ _ _ w h)
    · exact mC
  intro B1 a1 W1 (S1 : Sta w 7 [(1, (.box 34 (AM (Vv nD D K) (Mv nL L K) (Vv nT τ K) (Zv dn K))))] [] _ _ _)
  refine wp_stmt_seq [.val (Part a1 1 0), .val (Part a1 1 1), .val (Mv nL L K), .val (iV (nL : Nat)), .val (iV (nL : Nat))] [.inr 0] [.inl 4] follows S1 rfl (by kernel_rfl) ?_ ?_
  · refine ⟨⟨⟨⟨⟨trivial, ?_⟩, ?_⟩, ?_⟩, ?_⟩, ?_⟩
    · exact owe_part rfl wA rfl (k := 0) rfl (by kernel_rfl) rfl (fun ρ w b h => part_aim0 ρ _ _ w b 0 h)
    · exact owe_part2 rfl wA rfl (oO 0 3) rfl (fun ρ w b h => part_gso1 ρ _ _ w b 0 h)
    · exact owe_pload rfl wA rfl (oO 1 4) (k := 0) rfl (by kernel_rfl) rfl (fun ρ w b u h1 h2 h3 => pload_am1 ρ _ _ w b u h1 h2 h3)
    · exact owe_len rfl wA rfl (oO 2 5) ar_len Tryz.underlying30 rfl
    · exact mO 3 6
  intro B2 a2 W2 (S2 : Sta w 7 [(1, (.box 34 (AM (Vv nD D K) (Mv nL L K) (Vv nT τ K) (Zv dn K))))] [(2, iV (nL : Nat))] _ _ _)
  refine wp_ret ?_
  exact end_one S2 rfl (res_tmp S2 0 2 rfl)

set_option maxHeartbeats 400000 in
theorem anext_w (w : World) (u : Value) (nD nL nT K : Nat) (D : List Int) (L : List (List Int)) (τ : List Int) (dn : Int) (h : Hs w (AM (Vv nD D K) (Mv nL L K) (Vv nT τ K) (Zv dn K)) u) (hD : nD ≤ 1048576) (hL : nL ≤ 1048576) (hT : nT ≤ 1048576) (hK : K ≤ 1048576) (lD : D.length = nD) (lL : L.length = nL) (lT : τ.length = nT) (m : Nat) (hm : m < nL) :
    Calls Tryz.prog 39 #[u, .int .i64 (m : Nat)] w (Gives (IS (.int .i64 ((nL - 1 - m : Nat) : Int))) w) := by
  refine calls_sta (sl := [(0, (AM (Vv nD D K) (Mv nL L K) (Vv nT τ K) (Zv dn K))), (1, (iV (m : Nat)))]) Tryz.func39 rfl Tryz.ntmps39 (by simp) (args_cons rfl (h) (args_cons rfl (is_has _) args_nil)) ?_
  intro a0 S0
  refine wp_stmt_seq [.new (.box 34 (AM (Vv nD D K) (Mv nL L K) (Vv nT τ K) (Zv dn K))), .val (iV 0)] [.inl 0] [.inr 1] follows S0 rfl (by kernel_rfl) ?_ ?_
  · refine ⟨⟨trivial, ?_⟩, ?_⟩
    · exact owe_box rfl wA rfl (oS 0 0) rfl (fun ρ w h => box_aim shp_am ρ _ _ w h)
    · exact mC
  intro B1 a1 W1 (S1 : Sta w 10 [(2, (.box 34 (AM (Vv nD D K) (Mv nL L K) (Vv nT τ K) (Zv dn K))))] [(1, iV (m : Nat))] _ _ _)
  refine wp_stmt_seq [.val (AM (Vv nD D K) (Mv nL L K) (Vv nT τ K) (Zv dn K)), .val (iV (nL : Nat)), .val (iV ((nL - 1 : Nat) : Int)), .val (iV (m : Nat)), .val (iV ((nL - 1 - m : Nat) : Int)), .val (iV ((nL - 1 - m : Nat) : Int))] [.inr 0] [.inl 5] follows S1 rfl (by kernel_rfl) ?_ ?_
  · refine ⟨⟨⟨⟨⟨⟨trivial, ?_⟩, ?_⟩, ?_⟩, ?_⟩, ?_⟩, ?_⟩
    · exact lod 0 wA (loads_of strct_aim shp_am)
    · exact ch1 wA (qO 0 5 rfl) (fresh_is _) (fun w u h => arows_w w u nD nL nT K D L τ dn h hD hL hT hK lD lL lT)
    · exact b_sub_int wA (oO 1 6) (opnd_const _)
    · exact mS 0 1
    · exact b_sub_int wA (oO 2 7) (oO 3 8)
    · exact mO 4 9
  intro B2 a2 W2 (S2 : Sta w 10 [(2, (.box 34 (AM (Vv nD D K) (Mv nL L K) (Vv nT τ K) (Zv dn K))))] [(4, iV ((nL - 1 - m : Nat) : Int))] _ _ _)
  refine wp_ret ?_
  exact end_one S2 rfl (res_tmp S2 0 4 rfl)

set_option maxHeartbeats 2000000 in
theorem abeh_w (w : World) (u : Value) (nD nL nT K : Nat) (D : List Int) (L : List (List Int)) (τ : List Int) (dn : Int) (h : Hs w (AM (Vv nD D K) (Mv nL L K) (Vv nT τ K) (Zv dn K)) u) (hD : nD ≤ 1048576) (hL : nL ≤ 1048576) (hT : nT ≤ 1048576) (hK : K ≤ 1048576) (lD : D.length = nD) (lL : L.length = nL) (lT : τ.length = nT) (v : Value) (m Ks : Nat) (sh : List Int) (hv : Hs w (Vv m sh Ks) v) (hKs : Ks ≤ 16777216) (ls : sh.length = m) (hm : m < nL) (hr : ∀ j, j < nL → (L.getD j []).length = j) :
    Calls Tryz.prog 44 #[u, v] w (Gives (ZN (sumZ (fbL sh L nL (nL - 1 - m) m))) w) := by
  have hamd := am_mdl h.now
  have hdx := vv_dl hv.now
  refine calls_sta (sl := [(0, (AM (Vv nD D K) (Mv nL L K) (Vv nT τ K) (Zv dn K))), (1, (Vv m sh Ks))]) Tryz.func44 rfl Tryz.ntmps44 (by simp) (args_cons rfl (h) (args_cons rfl (hv) args_nil)) ?_
  intro a0 S0
  refine wp_stmt_seq [.new (.box 34 (AM (Vv nD D K) (Mv nL L K) (Vv nT τ K) (Zv dn K))), .new (.box 25 zI)] [.inl 0, .inl 1] [.inr 1] follows S0 rfl (by kernel_rfl) ?_ ?_
  · refine ⟨⟨trivial, ?_⟩, ?_⟩
    · exact owe_box rfl wA rfl (oS 0 0) rfl (fun ρ w h => box_aim shp_am ρ _ _ w h)
    · exact owe_new rfl wA rfl rfl (fun ρ w => alloc_int ρ _ w)
  intro B1 a1 W1 (S1 : Sta w 42 [(2, (.box 34 (AM (Vv nD D K) (Mv nL L K) (Vv nT τ K) (Zv dn K)))), (4, (.box 25 zI))] [(1, Vv m sh Ks)] _ _ _)
  refine wp_stmt_seq [.val (AM (Vv nD D K) (Mv nL L K) (Vv nT τ K) (Zv dn K)), .val (Vv m sh Ks), .val (iV (m : Nat)), .val (iV ((nL - 1 - m : Nat) : Int)), .val (iV ((nL - 1 - m : Nat) : Int))] [.inr 0, .inr 1] [.inl 4, .inr 0] follows S1 rfl (by kernel_rfl) ?_ ?_
  · refine ⟨⟨⟨⟨⟨trivial, ?_⟩, ?_⟩, ?_⟩, ?_⟩, ?_⟩
    · exact lod 0 wA (loads_of strct_aim shp_am)
    · exact mS 0 1
    · exact owe_len rfl wA rfl (oO 1 10) ar_len Tryz.underlying22 rfl
    · exact ch2 wA (qO 0 9 rfl) (qO 2 11 rfl) (fresh_is _) (fun w u t h ht => by obtain rfl : t = _ := ht.now; exact anext_w w u nD nL nT K D L τ dn h hD hL hT hK lD lL lT m (by omega))
    · exact mO 3 12
  intro B2 a2 W2 (S2 : Sta w 42 [(2, (.box 34 (AM (Vv nD D K) (Mv nL L K) (Vv nT τ K) (Zv dn K)))), (4, (.box 25 zI))] [(5, iV ((nL - 1 - m : Nat) : Int)), (1, Vv m sh Ks)] _ _ _)
  refine wp_stmt_seq [.val (Vv m sh Ks), .val (iV (m : Nat)), .new (.row 25 2 m (CE 2 (List.replicate m zI))), .ref 2] [.inr 0, .inr 1, .inl 3] [.inr 0, .inr 1] follows S2 rfl (by kernel_rfl) ?_ ?_
  · refine ⟨⟨⟨⟨trivial, ?_⟩, ?_⟩, ?_⟩, ?_⟩
    · exact mS 1 1
    · exact owe_len rfl wA rfl (oO 0 13) ar_len Tryz.underlying22 rfl
    · exact owe_makeE rfl wA rfl Tryz.underlying22 infoInt celv_z0 (by decide) (oO 1 14) ⟨by omega, by unfold maxLen; omega⟩ rfl
    · exact owe_ref 2 rfl wA (Or.inr rfl) (by kernel_rfl) rfl rfl
  intro B3 a3 W3 (S3 : Sta w 42 [(2, (.box 34 (AM (Vv nD D K) (Mv nL L K) (Vv nT τ K) (Zv dn K)))), (4, (.box 25 zI)), (6, (.row 25 2 m (CE 2 (List.replicate m zI))))] [(5, iV ((nL - 1 - m : Nat) : Int)), (1, Vv m sh Ks)] _ _ _)
  refine wp_seq ?_
  refine wp_stmt_seq [.val (Vv m sh Ks), .val (iV (m : Nat)), .val (iV 0)] [.inr 0, .inr 1, .inr 2] [.inl 0, .inl 1, .inl 2, .inr 0] follows S3 rfl (by kernel_rfl) ?_ ?_
  · refine ⟨⟨⟨trivial, ?_⟩, ?_⟩, ?_⟩
    · exact mS 1 1
    · exact owe_len rfl wA rfl (oO 0 16) ar_len Tryz.underlying22 rfl
    · exact mC
  intro B4 a4 W4 (S4 : Sta w 42 [(2, (.box 34 (AM (Vv nD D K) (Mv nL L K) (Vv nT τ K) (Zv dn K)))), (4, (.box 25 zI)), (6, (.row 25 2 m (CE 2 (List.replicate m zI))))] [(16, Vv m sh Ks), (17, iV (m : Nat)), (18, iV 0), (5, iV ((nL - 1 - m : Nat) : Int))] _ _ _)
  refine wp_block ?_
  refine wp_loop_ghost (fun (k0 : Nat) a W => (k0 ≤ m) ∧ ∃ Bq, Sta w 42 [(2, (.box 34 (AM (Vv nD D K) (Mv nL L K) (Vv nT τ K) (Zv dn K)))), (4, (.box 25 zI)), (6, (.row 25 2 m (CE 2 ((((fbL sh L nL (nL - 1 - m) m).map ZN).map (· w.heap.size)).take k0 ++ List.replicate (m - k0) zI))))] [(16, Vv m sh Ks), (17, iV (m : Nat)), (18, iV (k0 : Nat)), (5, iV ((nL - 1 - m : Nat) : Int))] Bq a W) (fun (k0 : Nat) => m - k0) ?_ 0 ⟨Nat.zero_le _, B4, S4.sub [0, 1, 2] [0, 1, 2, 3]⟩
  rintro k0 a5 W5 ⟨hcond, B5, S5⟩
  by_cases hlt : k0 < m
  · have hset := set_next (z := Is (.agg #[.bool false, .slice none 0 0])) (xs := ((fbL sh L nL (nL - 1 - m) m).map ZN).map (· w.heap.size)) (n := m) (by simp [fbL_len]) (map_get' (· w.heap.size) (map_get' ZN (fbL_get (sh := sh) (L := L) (n := nL) (i := nL - 1 - m) hlt)))
    have hrk := hr (nL - 1 - k0) (by omega)
    refine wp_stmt_seq [kT] [.inr 0, .inr 1, .inr 2] [.inl 0, .inr 0, .inr 1, .inr 2, .inr 3] follows S5 rfl (by kernel_rfl) ?_ ?_
    · refine ⟨trivial, ?_⟩
      · exact b_lss_int_t wA (oS 2 18) (oS 1 17)
    intro B6 a6 W6 (S6 : Sta w 42 [(2, (.box 34 (AM (Vv nD D K) (Mv nL L K) (Vv nT τ K) (Zv dn K)))), (4, (.box 25 zI)), (6, (.row 25 2 m (CE 2 ((((fbL sh L nL (nL - 1 - m) m).map ZN).map (· w.heap.size)).take k0 ++ List.replicate (m - k0) zI))))] [(19, bT), (16, Vv m sh Ks), (17, iV (m : Nat)), (18, iV (k0 : Nat)), (5, iV ((nL - 1 - m : Nat) : Int))] _ _ _)
    refine wp_seq ?_
    refine wp_cond_true (S6.bool 0 19 rfl) ?_
    refine wp_skip ?_
    refine thenN ?_
    refine wp_seq ?_
    refine wp_block ?_
    refine wp_stmt_seq [.val (iV (k0 : Nat)), .val (AtE 2 (Zv (sh.getD k0 0) Ks)), .val (Zv (sh.getD k0 0) Ks), .new (.box 25 zI), .val (iV (k0 : Nat)), .put (.inr 3) (.box 25 (Zv (sh.getD k0 0) Ks))] [.inr 0, .inr 1, .inr 2, .inl 3] [.inl 4, .inr 1, .inr 2, .inr 3, .inr 4] follows S6 rfl (by kernel_rfl) ?_ ?_
    · refine ⟨⟨⟨⟨⟨⟨trivial, ?_⟩, ?_⟩, ?_⟩, ?_⟩, ?_⟩, ?_⟩
      · exact mS 3 18
      · exact owe_aindex rfl wA rfl idx_ints (oS 1 16) (oS 3 18) (zv_at (by omega)) rfl
      · exact owe_aload rfl wA rfl ldr_int (by decide) (cel_shp (by decide) shp_zv) (oO 1 21) rfl
      · exact owe_new rfl wA rfl rfl (fun ρ w => alloc_int ρ _ w)
      · exact mO 0 20
      · exact owe_put 3 rfl wA rfl (by kernel_rfl) rfl (oO 2 22) (stores_of strct_int shp_z0 shp_zv) rfl
    intro B7 a7 W7 (S7 : Sta w 42 [(2, (.box 34 (AM (Vv nD D K) (Mv nL L K) (Vv nT τ K) (Zv dn K)))), (4, (.box 25 zI)), (6, (.row 25 2 m (CE 2 ((((fbL sh L nL (nL - 1 - m) m).map ZN).map (· w.heap.size)).take k0 ++ List.replicate (m - k0) zI)))), (8, (.box 25 (Zv (sh.getD k0 0) Ks)))] [(7, iV (k0 : Nat)), (16, Vv m sh Ks), (17, iV (m : Nat)), (18, iV (k0 : Nat)), (5, iV ((nL - 1 - m : Nat) : Int))] _ _ _)
    refine wp_stmt [.val (Is (a7.eval (.tmp 6))), .val (iV (k0 : Nat)), .val (Zv (sh.getD k0 0) Ks), .val (Part a7 2 0), .val (Part a7 2 1), .val (Mv nL L K), .val (AM (Vv nD D K) (Mv nL L K) (Vv nT τ K) (Zv dn K)), .val (iV (k0 : Nat)), .val (iV ((nL - 1 - k0 : Nat) : Int)), .val (AtE 1 (Vv (nL - 1 - k0) (L.getD (nL - 1 - k0) []) K)), .val (Vv (nL - 1 - k0) (L.getD (nL - 1 - k0) []) K), .val (iV ((nL - 1 - m : Nat) : Int)), .val (AtE 2 (Zv ((L.getD (nL - 1 - k0) []).getD (nL - 1 - m) 0) K)), .val (Zv ((L.getD (nL - 1 - k0) []).getD (nL - 1 - m) 0) K), .val ((ZN ((sh.getD k0 0) * ((L.getD (nL - 1 - k0) []).getD (nL - 1 - m) 0))) w.heap.size), .val (REt a7 6 (2 * k0)), .put (.inl 6) (.row 25 2 m (CE 2 ((((fbL sh L nL (nL - 1 - m) m).map ZN).map (· w.heap.size)).take (k0 + 1) ++ List.replicate (m - (k0 + 1)) zI)))] [.inr 0, .inr 1, .inr 2] [.inr 1, .inr 2, .inr 3, .inr 4] follows S7 rfl (by kernel_rfl) ?_ ?_
    · repeat' refine And.intro ?_ ?_
      · trivial
      · exact owe_same rfl wA (Or.inl rfl) (by kernel_rfl) rfl
      · exact mS 0 7
      · exact lod 3 wA (loads_of strct_int shp_zv)
      · exact owe_part rfl wA rfl (k := 0) rfl (by kernel_rfl) rfl (fun ρ w b h => part_aim0 ρ _ _ w b 0 h)
      · exact owe_part2 rfl wA rfl (oO 3 26) rfl (fun ρ w b h => part_gso1 ρ _ _ w b 0 h)
      · exact owe_pload rfl wA rfl (oO 4 27) (k := 0) rfl (by kernel_rfl) rfl (fun ρ w b u h1 h2 h3 => pload_am1 ρ _ _ w b u h1 h2 h3)
      · exact lod 0 wA (loads_of strct_aim shp_am)
      · exact mS 0 7
      · exact ch2 wA (qO 6 29 rfl) (qO 7 30 rfl) (fresh_is _) (fun w u t h ht => by obtain rfl : t = _ := ht.now; exact anext_w w u nD nL nT K D L τ dn h hD hL hT hK lD lL lT k0 (by omega))
      · exact owe_aindex rfl wA rfl idx_rows (oO 5 28) (oO 8 31) (by have q := vv_at (A := L) (K := K) (k := nL - 1 - k0) (by omega); rw [hrk] at q; exact q) rfl
      · exact owe_aload rfl wA rfl ldr_row1 (by decide) cel_vv (oO 9 32) rfl
      · exact mS 4 5
      · exact owe_aindex rfl wA rfl idx_ints (oO 10 33) (oO 11 34) (zv_at (by omega)) rfl
      · exact owe_aload rfl wA rfl ldr_int (by decide) (cel_shp (by decide) shp_zv) (oO 12 35) rfl
      · exact cc2 wA (qO 2 25 rfl) (qO 13 36 rfl) (fresh_zn _) (fun w u v h1 h2 => g_zmul (by omega) w u v ((fun _ _ h => h) _ _ h1) ((fun _ _ h => h) _ _ h2))
      · exact owe_rindexE rfl wA rfl idx_ints (oO 0 23) (k := 2) rfl (by kernel_rfl) (oO 1 24) hlt rfl
      · exact owe_rstoreE rfl wA rfl sto_int (by decide) (oO 15 38) (k := 2) rfl (by kernel_rfl) (oO 14 37) (cel_shp (by decide) shp_zn) hlt (by rw [hset]; rfl)
    intro B8 a8 W8 (S8 : Sta w 42 [(2, (.box 34 (AM (Vv nD D K) (Mv nL L K) (Vv nT τ K) (Zv dn K)))), (4, (.box 25 zI)), (6, (.row 25 2 m (CE 2 ((((fbL sh L nL (nL - 1 - m) m).map ZN).map (· w.heap.size)).take (k0 + 1) ++ List.replicate (m - (k0 + 1)) zI))))] [(16, Vv m sh Ks), (17, iV (m : Nat)), (18, iV (k0 : Nat)), (5, iV ((nL - 1 - m : Nat) : Int))] _ _ _)
    refine inBlkN ?_
    refine thenN ?_
    refine wp_stmt [.val (iV (k0 + 1 : Nat)), .val (iV (k0 + 1 : Nat))] [.inr 0, .inr 1, .inr 2] [.inl 1, .inr 0, .inr 1, .inr 3] follows S8 rfl (by kernel_rfl) ?_ ?_
    · refine ⟨⟨trivial, ?_⟩, ?_⟩
      · exact b_add_int wA (oS 2 18) (opnd_const _)
      · exact mO 0 39
    intro B9 a9 W9 (S9 : Sta w 42 [(2, (.box 34 (AM (Vv nD D K) (Mv nL L K) (Vv nT τ K) (Zv dn K)))), (4, (.box 25 zI)), (6, (.row 25 2 m (CE 2 ((((fbL sh L nL (nL - 1 - m) m).map ZN).map (· w.heap.size)).take (k0 + 1) ++ List.replicate (m - (k0 + 1)) zI))))] [(18, iV (k0 + 1 : Nat)), (16, Vv m sh Ks), (17, iV (m : Nat)), (5, iV ((nL - 1 - m : Nat) : Int))] _ _ _)
    refine thenN ?_
    exact ⟨k0 + 1, ⟨by omega, B9, S9.sub [0, 1, 2] [1, 2, 0, 3]⟩, by omega⟩
  · have hend := fill_end (z := Is (.agg #[.bool false, .slice none 0 0])) (xs := ((fbL sh L nL (nL - 1 - m) m).map ZN).map (· w.heap.size)) (n := m) (k := k0) (by simp [fbL_len]) (by omega)
    refine wp_stmt_seq [kF] [.inr 0, .inr 1, .inr 2] [.inl 0, .inr 0, .inr 1, .inr 2, .inr 3] follows S5 rfl (by kernel_rfl) ?_ ?_
    · refine ⟨trivial, ?_⟩
      · exact b_lss_int_f wA (oS 2 18) (oS 1 17)
    intro B6 a6 W6 (S6 : Sta w 42 [(2, (.box 34 (AM (Vv nD D K) (Mv nL L K) (Vv nT τ K) (Zv dn K)))), (4, (.box 25 zI)), (6, (.row 25 2 m (CE 2 ((((fbL sh L nL (nL - 1 - m) m).map ZN).map (· w.heap.size)).take k0 ++ List.replicate (m - k0) zI))))] [(19, bF), (16, Vv m sh Ks), (17, iV (m : Nat)), (18, iV (k0 : Nat)), (5, iV ((nL - 1 - m : Nat) : Int))] _ _ _)
    refine wp_seq ?_
    refine wp_cond_false (S6.bool 0 19 rfl) ?_
    refine wp_exit ?_
    refine thenX ?_
    refine thenX ?_
    refine inBlkE ?_
    refine thenN ?_
    obtain ⟨B7, S7⟩ : ∃ Bq, Sta w 42 [(2, (.box 34 (AM (Vv nD D K) (Mv nL L K) (Vv nT τ K) (Zv dn K)))), (4, (.box 25 zI))] [(6, ((VN m (fbL sh L nL (nL - 1 - m) m)) w.heap.size)), (19, bF), (16, Vv m sh Ks), (17, iV (m : Nat)), (18, iV (k0 : Nat)), (5, iV ((nL - 1 - m : Nat) : Int))] Bq a6 W6 := ⟨_, S6.freeze 2 rfl (by simp) (fun v w' xs ho hc => row_lf (by decide) v w' xs ho (by rw [hend] at hc; exact hc))⟩
    obtain ⟨a7, W7, e1, e2⟩ : ∃ a W, a6 = a ∧ W6 = W := ⟨_, _, rfl, rfl⟩
    rw [e1, e2] at S7 ⊢
    clear e1 e2
    refine wp_stmt_seq [.val ((VN m (fbL sh L nL (nL - 1 - m) m)) w.heap.size), .val ((ZN (sumZ (fbL sh L nL (nL - 1 - m) m))) w.heap.size), .put (.inl 4) (.box 25 ((ZN (sumZ (fbL sh L nL (nL - 1 - m) m))) w.heap.size))] [.inr 0, .inr 1] [.inr 0, .inr 2, .inr 3, .inr 4, .inr 5] follows S7 rfl (by kernel_rfl) ?_ ?_
    · refine ⟨⟨⟨trivial, ?_⟩, ?_⟩, ?_⟩
      · exact mS 0 6
      · exact ch1 wA (qO 0 40 rfl) (fresh_zn _) (h_zsum (by omega) (fbL_len sh L nL _ _) (fun j z hz => Nat.le_trans (fbL_dl hdx hamd.2.1 nL _ _ j z hz) (by omega)))
      · exact owe_set rfl wA rfl (k := 1) rfl (by kernel_rfl) (oO 1 41) (stores_of strct_int shp_z0 shp_zn) rfl
    intro B8 a8 W8 (S8 : Sta w 42 [(2, (.box 34 (AM (Vv nD D K) (Mv nL L K) (Vv nT τ K) (Zv dn K)))), (4, (.box 25 ((ZN (sumZ (fbL sh L nL (nL - 1 - m) m))) w.heap.size)))] [(6, ((VN m (fbL sh L nL (nL - 1 - m) m)) w.heap.size)), (16, Vv m sh Ks), (17, iV (m : Nat)), (18, iV (k0 : Nat)), (5, iV ((nL - 1 - m : Nat) : Int))] _ _ _)
    refine wp_ret ?_
    exact end_one S8 rfl (res_cell S8 1 4 rfl strct_int shp_zn)

set_option maxHeartbeats 2000000 in
theorem ashf_w (w : World) (u : Value) (nD nL nT K : Nat) (D : List Int) (L : List (List Int)) (τ : List Int) (dn : Int) (h : Hs w (AM (Vv nD D K) (Mv nL L K) (Vv nT τ K) (Zv dn K)) u) (hD : nD ≤ 1048576) (hL : nL ≤ 1048576) (hT : nT ≤ 1048576) (hK : K ≤ 1048576) (lD : D.length = nD) (lL : L.length = nL) (lT : τ.length = nT) (v : Value) (m Ks : Nat) (x : List Int) (hv : Hs w (Vv m x Ks) v) (hKs : Ks ≤ 16777216) (ls : x.length = m) (hm : m ≤ nL) (hTL : nT = nL) :
    Calls Tryz.prog 18 #[u, v] w (Gives (VN m (shL x dn τ nL m)) w) := by
  have hamd := am_mdl h.now
  refine calls_sta (sl := [(0, (AM (Vv nD D K) (Mv nL L K) (Vv nT τ K) (Zv dn K))), (1, (Vv m x Ks))]) Tryz.func18 rfl Tryz.ntmps18 (by simp) (args_cons rfl (h) (args_cons rfl (hv) args_nil)) ?_
  intro a0 S0
  refine wp_stmt_seq [.new (.box 34 (AM (Vv nD D K) (Mv nL L K) (Vv nT τ K) (Zv dn K))), .val (Is (.slice none 0 0))] [.inl 0] [.inr 1] follows S0 rfl (by kernel_rfl) ?_ ?_
  · refine ⟨⟨trivial, ?_⟩, ?_⟩
    · exact owe_box rfl wA rfl (oS 0 0) rfl (fun ρ w h => box_aim shp_am ρ _ _ w h)
    · exact mC
  intro B1 a1 W1 (S1 : Sta w 35 [(2, (.box 34 (AM (Vv nD D K) (Mv nL L K) (Vv nT τ K) (Zv dn K))))] [(1, Vv m x Ks)] _ _ _)
  refine wp_stmt_seq [.val (Vv m x Ks), .val (iV (m : Nat)), .new (.row 25 2 m (CE 2 (List.replicate m zI))), .ref 2] [.inr 0, .inl 3] [.inr 0] follows S1 rfl (by kernel_rfl) ?_ ?_
  · refine ⟨⟨⟨⟨trivial, ?_⟩, ?_⟩, ?_⟩, ?_⟩
    · exact mS 0 1
    · exact owe_len rfl wA rfl (oO 0 8) ar_len Tryz.underlying22 rfl
    · exact owe_makeE rfl wA rfl Tryz.underlying22 infoInt celv_z0 (by decide) (oO 1 9) ⟨by omega, by unfold maxLen; omega⟩ rfl
    · exact owe_ref 2 rfl wA (Or.inr rfl) (by kernel_rfl) rfl rfl
  intro B2 a2 W2 (S2 : Sta w 35 [(2, (.box 34 (AM (Vv nD D K) (Mv nL L K) (Vv nT τ K) (Zv dn K)))), (5, (.row 25 2 m (CE 2 (List.replicate m zI))))] [(1, Vv m x Ks)] _ _ _)
  refine wp_seq ?_
  refine wp_stmt_seq [.val (Vv m x Ks), .val (iV (m : Nat)), .val (iV 0)] [.inr 0, .inr 1] [.inl 0, .inl 1, .inl 2] follows S2 rfl (by kernel_rfl) ?_ ?_
  · refine ⟨⟨⟨trivial, ?_⟩, ?_⟩, ?_⟩
    · exact mS 0 1
    · exact owe_len rfl wA rfl (oO 0 11) ar_len Tryz.underlying22 rfl
    · exact mC
  intro B3 a3 W3 (S3 : Sta w 35 [(2, (.box 34 (AM (Vv nD D K) (Mv nL L K) (Vv nT τ K) (Zv dn K)))), (5, (.row 25 2 m (CE 2 (List.replicate m zI))))] [(11, Vv m x Ks), (12, iV (m : Nat)), (13, iV 0)] _ _ _)
  refine wp_block ?_
  refine wp_loop_ghost (fun (k0 : Nat) a W => (k0 ≤ m) ∧ ∃ Bq, Sta w 35 [(2, (.box 34 (AM (Vv nD D K) (Mv nL L K) (Vv nT τ K) (Zv dn K)))), (5, (.row 25 2 m (CE 2 ((((shL x dn τ nL m).map ZN).map (· w.heap.size)).take k0 ++ List.replicate (m - k0) zI))))] [(11, Vv m x Ks), (12, iV (m : Nat)), (13, iV (k0 : Nat))] Bq a W) (fun (k0 : Nat) => m - k0) ?_ 0 ⟨Nat.zero_le _, B3, S3.sub [0, 1] [0, 1, 2]⟩
  rintro k0 a4 W4 ⟨hcond, B4, S4⟩
  by_cases hlt : k0 < m
  · have hset := set_next (z := Is (.agg #[.bool false, .slice none 0 0])) (xs := ((shL x dn τ nL m).map ZN).map (· w.heap.size)) (n := m) (by simp [shL_len]) (map_get' (· w.heap.size) (map_get' ZN (shL_get (x := x) (dn := dn) (τ := τ) (n := nL) hlt)))
    have hq1 : (digs ((x.getD k0 0) * dn).natAbs).length ≤ 33554432 := by rw [Int.natAbs_mul]; exact Nat.le_trans (digs_mul_len (dl_getD (vv_dl hv.now) _) hamd.2.2.2) (by omega)
    refine wp_stmt_seq [kT] [.inr 0, .inr 1] [.inl 0, .inr 0, .inr 1, .inr 2] follows S4 rfl (by kernel_rfl) ?_ ?_
    · refine ⟨trivial, ?_⟩
      · exact b_lss_int_t wA (oS 2 13) (oS 1 12)
    intro B5 a5 W5 (S5 : Sta w 35 [(2, (.box 34 (AM (Vv nD D K) (Mv nL L K) (Vv nT τ K) (Zv dn K)))), (5, (.row 25 2 m (CE 2 ((((shL x dn τ nL m).map ZN).map (· w.heap.size)).take k0 ++ List.replicate (m - k0) zI))))] [(14, bT), (11, Vv m x Ks), (12, iV (m : Nat)), (13, iV (k0 : Nat))] _ _ _)
    refine wp_seq ?_
    refine wp_cond_true (S5.bool 0 14 rfl) ?_
    refine wp_skip ?_
    refine thenN ?_
    refine wp_seq ?_
    refine wp_block ?_
    refine wp_stmt_seq [.val (iV (k0 : Nat)), .val (AtE 2 (Zv (x.getD k0 0) Ks)), .val (Zv (x.getD k0 0) Ks), .new (.box 25 zI), .val (iV (k0 : Nat)), .put (.inr 3) (.box 25 (Zv (x.getD k0 0) Ks))] [.inr 0, .inr 1, .inl 3] [.inl 4, .inr 1, .inr 2, .inr 3] follows S5 rfl (by kernel_rfl) ?_ ?_
    · refine ⟨⟨⟨⟨⟨⟨trivial, ?_⟩, ?_⟩, ?_⟩, ?_⟩, ?_⟩, ?_⟩
      · exact mS 3 13
      · exact owe_aindex rfl wA rfl idx_ints (oS 1 11) (oS 3 13) (zv_at (by omega)) rfl
      · exact owe_aload rfl wA rfl ldr_int (by decide) (cel_shp (by decide) shp_zv) (oO 1 16) rfl
      · exact owe_new rfl wA rfl rfl (fun ρ w => alloc_int ρ _ w)
      · exact mO 0 15
      · exact owe_put 3 rfl wA rfl (by kernel_rfl) rfl (oO 2 17) (stores_of strct_int shp_z0 shp_zv) rfl
    intro B6 a6 W6 (S6 : Sta w 35 [(2, (.box 34 (AM (Vv nD D K) (Mv nL L K) (Vv nT τ K) (Zv dn K)))), (5, (.row 25 2 m (CE 2 ((((shL x dn τ nL m).map ZN).map (· w.heap.size)).take k0 ++ List.replicate (m - k0) zI)))), (7, (.box 25 (Zv (x.getD k0 0) Ks)))] [(6, iV (k0 : Nat)), (11, Vv m x Ks), (12, iV (m : Nat)), (13, iV (k0 : Nat))] _ _ _)
    refine wp_stmt [.val (Is (a6.eval (.tmp 5))), .val (iV (k0 : Nat)), .val (Zv (x.getD k0 0) Ks), .val (Part a6 2 3), .val (Zv dn K), .val ((ZN ((x.getD k0 0) * dn)) w.heap.size), .val (Part a6 2 2), .val (Vv nT τ K), .val (AM (Vv nD D K) (Mv nL L K) (Vv nT τ K) (Zv dn K)), .val (iV (k0 : Nat)), .val (iV ((nL - 1 - k0 : Nat) : Int)), .val (AtE 2 (Zv (τ.getD (nL - 1 - k0) 0) K)), .val (Zv (τ.getD (nL - 1 - k0) 0) K), .val ((ZN (((x.getD k0 0) * dn) - (τ.getD (nL - 1 - k0) 0))) w.heap.size), .val (REt a6 5 (2 * k0)), .put (.inl 5) (.row 25 2 m (CE 2 ((((shL x dn τ nL m).map ZN).map (· w.heap.size)).take (k0 + 1) ++ List.replicate (m - (k0 + 1)) zI)))] [.inr 0, .inr 1] [.inr 1, .inr 2, .inr 3] follows S6 rfl (by kernel_rfl) ?_ ?_
    · repeat' refine And.intro ?_ ?_
      · trivial
      · exact owe_same rfl wA (Or.inl rfl) (by kernel_rfl) rfl
      · exact mS 0 6
      · exact lod 2 wA (loads_of strct_int shp_zv)
      · exact owe_part rfl wA rfl (k := 0) rfl (by kernel_rfl) rfl (fun ρ w b h => part_aim2 ρ _ _ w b 0 h)
      · exact owe_pload rfl wA rfl (oO 3 21) (k := 0) rfl (by kernel_rfl) rfl (fun ρ w b u h1 h2 h3 => pload_am3 ρ _ _ w b u h1 h2 h3)
      · exact cc2 wA (qO 2 20 rfl) (qO 4 22 rfl) (fresh_zn _) (fun w u v h1 h2 => g_zmul (by omega) w u v ((fun _ _ h => h) _ _ h1) ((fun _ _ h => h) _ _ h2))
      · exact owe_part rfl wA rfl (k := 0) rfl (by kernel_rfl) rfl (fun ρ w b h => part_aim1 ρ _ _ w b 0 h)
      · exact owe_pload rfl wA rfl (oO 6 24) (k := 0) rfl (by kernel_rfl) rfl (fun ρ w b u h1 h2 h3 => pload_am2 ρ _ _ w b u h1 h2 h3)
      · exact lod 0 wA (loads_of strct_aim shp_am)
      · exact mS 0 6
      · exact ch2 wA (qO 8 26 rfl) (qO 9 27 rfl) (fresh_is _) (fun w u t h ht => by obtain rfl : t = _ := ht.now; exact anext_w w u nD nL nT K D L τ dn h hD hL hT hK lD lL lT k0 (by omega))
      · exact owe_aindex rfl wA rfl idx_ints (oO 7 25) (oO 10 28) (zv_at (by omega)) rfl
      · exact owe_aload rfl wA rfl ldr_int (by decide) (cel_shp (by decide) shp_zv) (oO 11 29) rfl
      · exact cc2 wA (qO 5 23 rfl) (qO 12 30 rfl) (fresh_zn _) (fun w u v h1 h2 => g_zsub (by omega) (by omega) w u v ((zn_zv hq1) _ _ h1) ((fun _ _ h => h) _ _ h2))
      · exact owe_rindexE rfl wA rfl idx_ints (oO 0 18) (k := 1) rfl (by kernel_rfl) (oO 1 19) hlt rfl
      · exact owe_rstoreE rfl wA rfl sto_int (by decide) (oO 14 32) (k := 1) rfl (by kernel_rfl) (oO 13 31) (cel_shp (by decide) shp_zn) hlt (by rw [hset]; rfl)
    intro B7 a7 W7 (S7 : Sta w 35 [(2, (.box 34 (AM (Vv nD D K) (Mv nL L K) (Vv nT τ K) (Zv dn K)))), (5, (.row 25 2 m (CE 2 ((((shL x dn τ nL m).map ZN).map (· w.heap.size)).take (k0 + 1) ++ List.replicate (m - (k0 + 1)) zI))))] [(11, Vv m x Ks), (12, iV (m : Nat)), (13, iV (k0 : Nat))] _ _ _)
    refine inBlkN ?_
    refine thenN ?_
    refine wp_stmt [.val (iV (k0 + 1 : Nat)), .val (iV (k0 + 1 : Nat))] [.inr 0, .inr 1] [.inl 1, .inr 0, .inr 1] follows S7 rfl (by kernel_rfl) ?_ ?_
    · refine ⟨⟨trivial, ?_⟩, ?_⟩
      · exact b_add_int wA (oS 2 13) (opnd_const _)
      · exact mO 0 33
    intro B8 a8 W8 (S8 : Sta w 35 [(2, (.box 34 (AM (Vv nD D K) (Mv nL L K) (Vv nT τ K) (Zv dn K)))), (5, (.row 25 2 m (CE 2 ((((shL x dn τ nL m).map ZN).map (· w.heap.size)).take (k0 + 1) ++ List.replicate (m - (k0 + 1)) zI))))] [(13, iV (k0 + 1 : Nat)), (11, Vv m x Ks), (12, iV (m : Nat))] _ _ _)
    refine thenN ?_
    exact ⟨k0 + 1, ⟨by omega, B8, S8.sub [0, 1] [1, 2, 0]⟩, by omega⟩
  · have hend := fill_end (z := Is (.agg #[.bool false, .slice none 0 0])) (xs := ((shL x dn τ nL m).map ZN).map (· w.heap.size)) (n := m) (k := k0) (by simp [shL_len]) (by omega)
    refine wp_stmt_seq [kF] [.inr 0, .inr 1] [.inl 0, .inr 0, .inr 1, .inr 2] follows S4 rfl (by kernel_rfl) ?_ ?_
    · refine ⟨trivial, ?_⟩
      · exact b_lss_int_f wA (oS 2 13) (oS 1 12)
    intro B5 a5 W5 (S5 : Sta w 35 [(2, (.box 34 (AM (Vv nD D K) (Mv nL L K) (Vv nT τ K) (Zv dn K)))), (5, (.row 25 2 m (CE 2 ((((shL x dn τ nL m).map ZN).map (· w.heap.size)).take k0 ++ List.replicate (m - k0) zI))))] [(14, bF), (11, Vv m x Ks), (12, iV (m : Nat)), (13, iV (k0 : Nat))] _ _ _)
    refine wp_seq ?_
    refine wp_cond_false (S5.bool 0 14 rfl) ?_
    refine wp_exit ?_
    refine thenX ?_
    refine thenX ?_
    refine inBlkE ?_
    refine thenN ?_
    obtain ⟨B6, S6⟩ : ∃ Bq, Sta w 35 [(2, (.box 34 (AM (Vv nD D K) (Mv nL L K) (Vv nT τ K) (Zv dn K))))] [(5, ((VN m (shL x dn τ nL m)) w.heap.size)), (14, bF), (11, Vv m x Ks), (12, iV (m : Nat)), (13, iV (k0 : Nat))] Bq a5 W5 := ⟨_, S5.freeze 1 rfl (by simp) (fun v w' xs ho hc => row_lf (by decide) v w' xs ho (by rw [hend] at hc; exact hc))⟩
    obtain ⟨a6, W6, e1, e2⟩ : ∃ a W, a5 = a ∧ W5 = W := ⟨_, _, rfl, rfl⟩
    rw [e1, e2] at S6 ⊢
    clear e1 e2
    refine wp_stmt_seq [.val ((VN m (shL x dn τ nL m)) w.heap.size), .val ((VN m (shL x dn τ nL m)) w.heap.size)] [.inr 0] [.inl 1, .inr 0, .inr 2, .inr 3, .inr 4] follows S6 rfl (by kernel_rfl) ?_ ?_
    · refine ⟨⟨trivial, ?_⟩, ?_⟩
      · exact mS 0 5
      · exact mO 0 34
    intro B7 a7 W7 (S7 : Sta w 35 [(2, (.box 34 (AM (Vv nD D K) (Mv nL L K) (Vv nT τ K) (Zv dn K))))] [(4, ((VN m (shL x dn τ nL m)) w.heap.size)), (5, ((VN m (shL x dn τ nL m)) w.heap.size)), (11, Vv m x Ks), (12, iV (m : Nat)), (13, iV (k0 : Nat))] _ _ _)
    refine wp_ret ?_
    exact end_one S7 rfl (res_tmp S7 0 4 rfl)

set_option maxHeartbeats 4000000 in
theorem anorm_w (w : World) (u : Value) (nD nL nT K : Nat) (D : List Int) (L : List (List Int)) (τ : List Int) (dn : Int) (h : Hs w (AM (Vv nD D K) (Mv nL L K) (Vv nT τ K) (Zv dn K)) u) (hD : nD ≤ 1048576) (hL : nL ≤ 1048576) (hT : nT ≤ 1048576) (hK : K ≤ 1048576) (lD : D.length = nD) (lL : L.length = nL) (lT : τ.length = nT) (v : Value) (m Ks : Nat) (sh : List Int) (hv : Hs w (Vv m sh Ks) v) (hKs : Ks ≤ 16777216) (ls : sh.length = m) (g : Good D L) (hm : m ≤ nL) (hN : ∀ k, k ≤ m → (digs (fS D sh L nL k).1.natAbs).length ≤ 33554432) (hR : ∀ k, k ≤ m → (digs (fS D sh L nL k).2.natAbs).length ≤ 33554432) :
    Calls Tryz.prog 22 #[u, v] w (Gives (PRF (ZN ((fS D sh L nL m).1)) (ZN (((fS D sh L nL m).2 * fD D nL m) * (dn * dn)))) w) := by
  have hgl := g.len
  have hamd := am_mdl h.now
  have hdx := vv_dl hv.now
  have hK1 : (digs (1 : Int).natAbs).length ≤ K := by have q := dl_getD hamd.1 0; rw [g.one] at q; exact q
  have hz2 : (digs (dn * dn).natAbs).length ≤ 2097152 := by rw [Int.natAbs_mul]; exact Nat.le_trans (digs_mul_len hamd.2.2.2 hamd.2.2.2) (by omega)
  refine calls_sta (sl := [(0, (AM (Vv nD D K) (Mv nL L K) (Vv nT τ K) (Zv dn K))), (1, (Vv m sh Ks))]) Tryz.func22 rfl Tryz.ntmps22 (by simp) (args_cons rfl (h) (args_cons rfl (hv) args_nil)) ?_
  intro a0 S0
  refine wp_stmt_seq [.new (.box 34 (AM (Vv nD D K) (Mv nL L K) (Vv nT τ K) (Zv dn K))), .new (.box 27 zR)] [.inl 0, .inl 1] [.inr 1] follows S0 rfl (by kernel_rfl) ?_ ?_
  · refine ⟨⟨trivial, ?_⟩, ?_⟩
    · exact owe_box rfl wA rfl (oS 0 0) rfl (fun ρ w h => box_aim shp_am ρ _ _ w h)
    · exact owe_new rfl wA rfl rfl (fun ρ w => alloc_rat ρ _ w)
  intro B1 a1 W1 (S1 : Sta w 83 [(2, (.box 34 (AM (Vv nD D K) (Mv nL L K) (Vv nT τ K) (Zv dn K)))), (4, (.box 27 zR))] [(1, Vv m sh Ks)] _ _ _)
  refine wp_stmt_seq [.val ((ZN (0)) w.heap.size), .val ((ZN (1)) w.heap.size), .val ((ZN (1)) w.heap.size), .new (.box 25 zI), .new (.box 25 zI), .new (.box 25 zI), .put (.inr 3) (.box 25 ((ZN (0)) w.heap.size)), .put (.inr 4) (.box 25 ((ZN (1)) w.heap.size)), .put (.inr 5) (.box 25 ((ZN (1)) w.heap.size))] [.inr 0, .inr 1, .inl 3, .inl 4, .inl 5] [.inr 0] follows S1 rfl (by kernel_rfl) ?_ ?_
  · repeat' refine And.intro ?_ ?_
    · trivial
    · exact cc1 wA (opnd_const _) (fresh_zn _) (g_zof (0) (by omega) (by omega))
    · exact cc1 wA (opnd_const _) (fresh_zn _) (g_zof (1) (by omega) (by omega))
    · exact cc1 wA (opnd_const _) (fresh_zn _) (g_zof (1) (by omega) (by omega))
    · exact owe_new rfl wA rfl rfl (fun ρ w => alloc_int ρ _ w)
    · exact owe_new rfl wA rfl rfl (fun ρ w => alloc_int ρ _ w)
    · exact owe_new rfl wA rfl rfl (fun ρ w => alloc_int ρ _ w)
    · exact owe_put 3 rfl wA rfl (by kernel_rfl) rfl (oO 0 15) (stores_of strct_int shp_z0 shp_zn) rfl
    · exact owe_put 4 rfl wA rfl (by kernel_rfl) rfl (oO 1 16) (stores_of strct_int shp_z0 shp_zn) rfl
    · exact owe_put 5 rfl wA rfl (by kernel_rfl) rfl (oO 2 17) (stores_of strct_int shp_z0 shp_zn) rfl
  intro B2 a2 W2 (S2 : Sta w 83 [(2, (.box 34 (AM (Vv nD D K) (Mv nL L K) (Vv nT τ K) (Zv dn K)))), (4, (.box 27 zR)), (5, (.box 25 ((ZN (0)) w.heap.size))), (6, (.box 25 ((ZN (1)) w.heap.size))), (7, (.box 25 ((ZN (1)) w.heap.size)))] [(1, Vv m sh Ks)] _ _ _)
  refine wp_seq ?_
  replace S2 : Sta w 83 [(2, (.box 34 (AM (Vv nD D K) (Mv nL L K) (Vv nT τ K) (Zv dn K)))), (4, (.box 27 zR)), (5, (.box 25 ((ZN (0)) w.heap.size))), (6, (.box 25 ((ZN (1)) w.heap.size))), (7, (.box 25 (Zv (fD D nL 0) K)))] [(1, Vv m sh Ks)] B2 a2 W2 := S2.reboxS 4 rfl (zn_zv hK1)
  refine wp_stmt_seq [.val (Vv m sh Ks), .val (iV (m : Nat)), .val (iV 0)] [.inr 0, .inr 1, .inr 2, .inr 3, .inr 4] [.inl 0, .inl 1, .inl 2, .inr 0] follows S2 rfl (by kernel_rfl) ?_ ?_
  · refine ⟨⟨⟨trivial, ?_⟩, ?_⟩, ?_⟩
    · exact mS 0 1
    · exact owe_len rfl wA rfl (oO 0 18) ar_len Tryz.underlying22 rfl
    · exact mC
  intro B3 a3 W3 (S3 : Sta w 83 [(2, (.box 34 (AM (Vv nD D K) (Mv nL L K) (Vv nT τ K) (Zv dn K)))), (4, (.box 27 zR)), (5, (.box 25 ((ZN (0)) w.heap.size))), (6, (.box 25 ((ZN (1)) w.heap.size))), (7, (.box 25 (Zv (fD D nL 0) K)))] [(18, Vv m sh Ks), (19, iV (m : Nat)), (20, iV 0), (1, Vv m sh Ks)] _ _ _)
  refine wp_block ?_
  refine wp_loop_ghost (fun (k0 : Nat) a W => (k0 ≤ m) ∧ ∃ Bq, Sta w 83 [(2, (.box 34 (AM (Vv nD D K) (Mv nL L K) (Vv nT τ K) (Zv dn K)))), (4, (.box 27 zR)), (5, (.box 25 ((ZN ((fS D sh L nL k0).1)) w.heap.size))), (6, (.box 25 ((ZN ((fS D sh L nL k0).2)) w.heap.size))), (7, (.box 25 (Zv (fD D nL k0) K)))] [(18, Vv m sh Ks), (19, iV (m : Nat)), (20, iV (k0 : Nat)), (1, Vv m sh Ks)] Bq a W) (fun (k0 : Nat) => m - k0) ?_ 0 ⟨Nat.zero_le _, B3, S3.sub [0, 1, 2, 3, 4] [0, 1, 2, 3]⟩
  rintro k0 a4 W4 ⟨hcond, B4, S4⟩
  by_cases hlt : k0 < m
  · have hlt' : k0 < m := hlt
    have hp1 := dl_getD hdx k0
    have hp2 := dl_getD hamd.1 (nL - 1 - k0 + 1)
    have hp3 := dl_getD hamd.1 (nL - 1 - k0)
    have hN0 := hN k0 (by omega)
    have hR0 := hR k0 (by omega)
    have hq1 : (digs ((sh.getD k0 0) * (D.getD (nL - 1 - k0 + 1) 0)).natAbs).length ≤ 17825792 := by rw [Int.natAbs_mul]; exact Nat.le_trans (digs_mul_len hp1 hp2) (by omega)
    have hq2 : (digs (sumZ (fbL sh L nL (nL - 1 - k0) k0)).natAbs).length ≤ 18874368 := by have z := sumZ_len (fbL_dl hdx hamd.2.1 nL (nL - 1 - k0) k0) k0; rw [List.take_of_length_le (by rw [fbL_len]; omega)] at z; omega
    have hq3 : (digs (fW D sh L nL k0).natAbs).length ≤ 18874369 := dl_add (Nat.le_trans hq1 (by omega)) hq2
    have hq4 : (digs ((fW D sh L nL k0) * (fW D sh L nL k0)).natAbs).length ≤ 37748738 := by rw [Int.natAbs_mul]; exact Nat.le_trans (digs_mul_len hq3 hq3) (by omega)
    have hq5 : (digs (((fS D sh L nL k0).2) * ((fW D sh L nL k0) * (fW D sh L nL k0))).natAbs).length ≤ 71303170 := by rw [Int.natAbs_mul]; exact Nat.le_trans (digs_mul_len hR0 hq4) (by omega)
    have hq6 : (digs (((fS D sh L nL k0).1) * (D.getD (nL - 1 - k0) 0)).natAbs).length ≤ 71303170 := by rw [Int.natAbs_mul]; exact Nat.le_trans (digs_mul_len hN0 hp3) (by omega)
    have hq7 : (digs (fM D sh L nL k0 (fS D sh L nL k0)).natAbs).length ≤ 71303171 := dl_add hq6 hq5
    have hdm : D.getD (nL - 1 - k0 + 1) 0 ≠ 0 := Int.ne_of_gt (g.d _ (by omega))
    refine wp_stmt_seq [kT] [.inr 0, .inr 1, .inr 2, .inr 3, .inr 4] [.inl 0, .inr 0, .inr 1, .inr 2, .inr 3] follows S4 rfl (by kernel_rfl) ?_ ?_
    · refine ⟨trivial, ?_⟩
      · exact b_lss_int_t wA (oS 2 20) (oS 1 19)
    intro B5 a5 W5 (S5 : Sta w 83 [(2, (.box 34 (AM (Vv nD D K) (Mv nL L K) (Vv nT τ K) (Zv dn K)))), (4, (.box 27 zR)), (5, (.box 25 ((ZN ((fS D sh L nL k0).1)) w.heap.size))), (6, (.box 25 ((ZN ((fS D sh L nL k0).2)) w.heap.size))), (7, (.box 25 (Zv (fD D nL k0) K)))] [(21, bT), (18, Vv m sh Ks), (19, iV (m : Nat)), (20, iV (k0 : Nat)), (1, Vv m sh Ks)] _ _ _)
    refine wp_seq ?_
    refine wp_cond_true (S5.bool 0 21 rfl) ?_
    refine wp_skip ?_
    refine thenN ?_
    refine wp_seq ?_
    refine wp_block ?_
    refine wp_stmt_seq [.val (iV (k0 : Nat)), .val (AtE 2 (Zv (sh.getD k0 0) Ks)), .val (Zv (sh.getD k0 0) Ks), .new (.box 25 zI), .val (iV (k0 : Nat)), .put (.inr 3) (.box 25 (Zv (sh.getD k0 0) Ks))] [.inr 0, .inr 1, .inr 2, .inr 3, .inr 4, .inl 3] [.inl 4, .inr 1, .inr 2, .inr 3, .inr 4] follows S5 rfl (by kernel_rfl) ?_ ?_
    · refine ⟨⟨⟨⟨⟨⟨trivial, ?_⟩, ?_⟩, ?_⟩, ?_⟩, ?_⟩, ?_⟩
      · exact mS 3 20
      · exact owe_aindex rfl wA rfl idx_ints (oS 1 18) (oS 3 20) (zv_at (by omega)) rfl
      · exact owe_aload rfl wA rfl ldr_int (by decide) (cel_shp (by decide) shp_zv) (oO 1 23) rfl
      · exact owe_new rfl wA rfl rfl (fun ρ w => alloc_int ρ _ w)
      · exact mO 0 22
      · exact owe_put 3 rfl wA rfl (by kernel_rfl) rfl (oO 2 24) (stores_of strct_int shp_z0 shp_zv) rfl
    intro B6 a6 W6 (S6 : Sta w 83 [(2, (.box 34 (AM (Vv nD D K) (Mv nL L K) (Vv nT τ K) (Zv dn K)))), (4, (.box 27 zR)), (5, (.box 25 ((ZN ((fS D sh L nL k0).1)) w.heap.size))), (6, (.box 25 ((ZN ((fS D sh L nL k0).2)) w.heap.size))), (7, (.box 25 (Zv (fD D nL k0) K))), (9, (.box 25 (Zv (sh.getD k0 0) Ks)))] [(8, iV (k0 : Nat)), (18, Vv m sh Ks), (19, iV (m : Nat)), (20, iV (k0 : Nat)), (1, Vv m sh Ks)] _ _ _)
    refine wp_stmt_seq [.val (AM (Vv nD D K) (Mv nL L K) (Vv nT τ K) (Zv dn K)), .val (iV (k0 : Nat)), .val (iV ((nL - 1 - k0 : Nat) : Int)), .val (iV ((nL - 1 - k0 : Nat) : Int))] [.inr 0, .inr 1, .inr 2, .inr 3, .inr 4, .inr 5] [.inl 3, .inr 0, .inr 1, .inr 2, .inr 3, .inr 4] follows S6 rfl (by kernel_rfl) ?_ ?_
    · refine ⟨⟨⟨⟨trivial, ?_⟩, ?_⟩, ?_⟩, ?_⟩
      · exact lod 0 wA (loads_of strct_aim shp_am)
      · exact mS 0 8
      · exact ch2 wA (qO 0 25 rfl) (qO 1 26 rfl) (fresh_is _) (fun w u t h ht => by obtain rfl : t = _ := ht.now; exact anext_w w u nD nL nT K D L τ dn h hD hL hT hK lD lL lT k0 (by omega))
      · exact mO 2 27
    intro B7 a7 W7 (S7 : Sta w 83 [(2, (.box 34 (AM (Vv nD D K) (Mv nL L K) (Vv nT τ K) (Zv dn K)))), (4, (.box 27 zR)), (5, (.box 25 ((ZN ((fS D sh L nL k0).1)) w.heap.size))), (6, (.box 25 ((ZN ((fS D sh L nL k0).2)) w.heap.size))), (7, (.box 25 (Zv (fD D nL k0) K))), (9, (.box 25 (Zv (sh.getD k0 0) Ks)))] [(10, iV ((nL - 1 - k0 : Nat) : Int)), (8, iV (k0 : Nat)), (18, Vv m sh Ks), (19, iV (m : Nat)), (20, iV (k0 : Nat)), (1, Vv m sh Ks)] _ _ _)
    refine wp_stmt_seq [.val (Part a7 2 0), .val (Part a7 2 0), .val (Vv nD D K), .val (iV ((nL - 1 - k0 : Nat) : Int)), .val (iV ((nL - 1 - k0 + 1 : Nat) : Int)), .val (AtE 2 (Zv (D.getD (nL - 1 - k0 + 1) 0) K)), .val (Zv (D.getD (nL - 1 - k0 + 1) 0) K), .new (.box 25 zI), .put (.inr 7) (.box 25 (Zv (D.getD (nL - 1 - k0 + 1) 0) K))] [.inr 0, .inr 1, .inr 2, .inr 3, .inr 4, .inr 5, .inl 7] [.inr 0, .inr 1, .inr 2, .inr 3, .inr 4, .inr 5] follows S7 rfl (by kernel_rfl) ?_ ?_
    · repeat' refine And.intro ?_ ?_
      · trivial
      · exact owe_part rfl wA rfl (k := 0) rfl (by kernel_rfl) rfl (fun ρ w b h => part_aim0 ρ _ _ w b 0 h)
      · exact owe_part2 rfl wA rfl (oO 0 28) rfl (fun ρ w b h => part_gso0 ρ _ _ w b 0 h)
      · exact owe_pload rfl wA rfl (oO 1 29) (k := 0) rfl (by kernel_rfl) rfl (fun ρ w b u h1 h2 h3 => pload_am0 ρ _ _ w b u h1 h2 h3)
      · exact mS 0 10
      · exact b_add_int wA (oO 3 31) (opnd_const _)
      · exact owe_aindex rfl wA rfl idx_ints (oO 2 30) (oO 4 32) (zv_at (by omega)) rfl
      · exact owe_aload rfl wA rfl ldr_int (by decide) (cel_shp (by decide) shp_zv) (oO 5 33) rfl
      · exact owe_new rfl wA rfl rfl (fun ρ w => alloc_int ρ _ w)
      · exact owe_put 7 rfl wA rfl (by kernel_rfl) rfl (oO 6 34) (stores_of strct_int shp_z0 shp_zv) rfl
    intro B8 a8 W8 (S8 : Sta w 83 [(2, (.box 34 (AM (Vv nD D K) (Mv nL L K) (Vv nT τ K) (Zv dn K)))), (4, (.box 27 zR)), (5, (.box 25 ((ZN ((fS D sh L nL k0).1)) w.heap.size))), (6, (.box 25 ((ZN ((fS D sh L nL k0).2)) w.heap.size))), (7, (.box 25 (Zv (fD D nL k0) K))), (9, (.box 25 (Zv (sh.getD k0 0) Ks))), (11, (.box 25 (Zv (D.getD (nL - 1 - k0 + 1) 0) K)))] [(10, iV ((nL - 1 - k0 : Nat) : Int)), (8, iV (k0 : Nat)), (18, Vv m sh Ks), (19, iV (m : Nat)), (20, iV (k0 : Nat)), (1, Vv m sh Ks)] _ _ _)
    refine wp_stmt_seq [.val (Part a8 2 0), .val (Part a8 2 0), .val (Vv nD D K), .val (iV ((nL - 1 - k0 : Nat) : Int)), .val (AtE 2 (Zv (D.getD (nL - 1 - k0) 0) K)), .val (Zv (D.getD (nL - 1 - k0) 0) K), .put (.inl 7) (.box 25 (Zv (D.getD (nL - 1 - k0) 0) K))] [.inr 0, .inr 1, .inr 2, .inr 3, .inr 4, .inr 5, .inr 6] [.inr 1, .inr 2, .inr 3, .inr 4, .inr 5] follows S8 rfl (by kernel_rfl) ?_ ?_
    · repeat' refine And.intro ?_ ?_
      · trivial
      · exact owe_part rfl wA rfl (k := 0) rfl (by kernel_rfl) rfl (fun ρ w b h => part_aim0 ρ _ _ w b 0 h)
      · exact owe_part2 rfl wA rfl (oO 0 35) rfl (fun ρ w b h => part_gso0 ρ _ _ w b 0 h)
      · exact owe_pload rfl wA rfl (oO 1 36) (k := 0) rfl (by kernel_rfl) rfl (fun ρ w b u h1 h2 h3 => pload_am0 ρ _ _ w b u h1 h2 h3)
      · exact mS 0 10
      · exact owe_aindex rfl wA rfl idx_ints (oO 2 37) (oO 3 38) (zv_at (by omega)) rfl
      · exact owe_aload rfl wA rfl ldr_int (by decide) (cel_shp (by decide) shp_zv) (oO 4 39) rfl
      · exact owe_set rfl wA rfl (k := 4) rfl (by kernel_rfl) (oO 5 40) (stores_of strct_int shp_zv shp_zv) rfl
    intro B9 a9 W9 (S9 : Sta w 83 [(2, (.box 34 (AM (Vv nD D K) (Mv nL L K) (Vv nT τ K) (Zv dn K)))), (4, (.box 27 zR)), (5, (.box 25 ((ZN ((fS D sh L nL k0).1)) w.heap.size))), (6, (.box 25 ((ZN ((fS D sh L nL k0).2)) w.heap.size))), (7, (.box 25 (Zv (D.getD (nL - 1 - k0) 0) K))), (9, (.box 25 (Zv (sh.getD k0 0) Ks))), (11, (.box 25 (Zv (D.getD (nL - 1 - k0 + 1) 0) K)))] [(8, iV (k0 : Nat)), (18, Vv m sh Ks), (19, iV (m : Nat)), (20, iV (k0 : Nat)), (1, Vv m sh Ks)] _ _ _)
    refine wp_stmt_seq [.val (Zv (sh.getD k0 0) Ks), .val (Zv (D.getD (nL - 1 - k0 + 1) 0) K), .val ((ZN ((sh.getD k0 0) * (D.getD (nL - 1 - k0 + 1) 0))) w.heap.size), .val (AM (Vv nD D K) (Mv nL L K) (Vv nT τ K) (Zv dn K)), .val (Vv m sh Ks), .val (iV (k0 : Nat)), .val (Vv k0 (sh.take k0) Ks), .val ((ZN (sumZ (fbL sh L nL (nL - 1 - k0) k0))) w.heap.size), .val ((ZN (fW D sh L nL k0)) w.heap.size), .new (.box 25 zI), .put (.inr 9) (.box 25 ((ZN (fW D sh L nL k0)) w.heap.size))] [.inr 0, .inr 1, .inr 2, .inr 3, .inr 4, .inr 6, .inl 9] [.inr 1, .inr 2, .inr 3, .inr 4] follows S9 rfl (by kernel_rfl) ?_ ?_
    · repeat' refine And.intro ?_ ?_
      · trivial
      · exact lod 5 wA (loads_of strct_int shp_zv)
      · exact lod 6 wA (loads_of strct_int shp_zv)
      · exact cc2 wA (qO 0 41 rfl) (qO 1 42 rfl) (fresh_zn _) (fun w u v h1 h2 => g_zmul (by omega) w u v ((fun _ _ h => h) _ _ h1) ((fun _ _ h => h) _ _ h2))
      · exact lod 0 wA (loads_of strct_aim shp_am)
      · exact mS 4 1
      · exact mS 0 8
      · exact owe_arhi rfl wA rfl (oO 4 45) (oO 5 46) ⟨by omega, by omega⟩ (by rw [← List.map_take]; rfl)
      · exact ch2 wA (qO 3 44 rfl) (qO 6 47 rfl) (fresh_zn _) (fun w u0 u1 h0 h1 => Gives.cast (abeh_w w u0 nD nL nT K D L τ dn h0 hD hL hT hK lD lL lT u1 k0 Ks (sh.take k0) h1 hKs (by rw [List.length_take]; omega) (by omega) (fun j hj => g.row j (by omega))) (by rw [fbL_take _ _ _ _ k0 (Nat.le_refl _)]))
      · exact cc2 wA (qO 2 43 rfl) (qO 7 48 rfl) (fresh_zn _) (fun w u0 u1 h0 h1 => Gives.cast ((fun w u v h1 h2 => g_zadd (by omega) (by omega) w u v ((zn_zv hq1) _ _ h1) ((zn_zv hq2) _ _ h2)) w u0 u1 h0 h1) (by rfl))
      · exact owe_new rfl wA rfl rfl (fun ρ w => alloc_int ρ _ w)
      · exact owe_put 9 rfl wA rfl (by kernel_rfl) rfl (oO 8 49) (stores_of strct_int shp_z0 shp_zn) rfl
    intro B10 a10 W10 (S10 : Sta w 83 [(2, (.box 34 (AM (Vv nD D K) (Mv nL L K) (Vv nT τ K) (Zv dn K)))), (4, (.box 27 zR)), (5, (.box 25 ((ZN ((fS D sh L nL k0).1)) w.heap.size))), (6, (.box 25 ((ZN ((fS D sh L nL k0).2)) w.heap.size))), (7, (.box 25 (Zv (D.getD (nL - 1 - k0) 0) K))), (11, (.box 25 (Zv (D.getD (nL - 1 - k0 + 1) 0) K))), (12, (.box 25 ((ZN (fW D sh L nL k0)) w.heap.size)))] [(18, Vv m sh Ks), (19, iV (m : Nat)), (20, iV (k0 : Nat)), (1, Vv m sh Ks)] _ _ _)
    refine wp_stmt_seq [.val ((ZN ((fS D sh L nL k0).1)) w.heap.size), .val (Zv (D.getD (nL - 1 - k0) 0) K), .val ((ZN (((fS D sh L nL k0).1) * (D.getD (nL - 1 - k0) 0))) w.heap.size), .val ((ZN ((fS D sh L nL k0).2)) w.heap.size), .val ((ZN (fW D sh L nL k0)) w.heap.size), .val ((ZN (fW D sh L nL k0)) w.heap.size), .val ((ZN ((fW D sh L nL k0) * (fW D sh L nL k0))) w.heap.size), .val ((ZN (((fS D sh L nL k0).2) * ((fW D sh L nL k0) * (fW D sh L nL k0)))) w.heap.size), .val ((ZN (fM D sh L nL k0 (fS D sh L nL k0))) w.heap.size), .put (.inl 5) (.box 25 ((ZN (fM D sh L nL k0 (fS D sh L nL k0))) w.heap.size))] [.inr 0, .inr 1, .inr 2, .inr 3, .inr 4, .inr 5] [.inr 0, .inr 1, .inr 2, .inr 3] follows S10 rfl (by kernel_rfl) ?_ ?_
    · repeat' refine And.intro ?_ ?_
      · trivial
      · exact lod 2 wA (loads_of strct_int shp_zn)
      · exact lod 4 wA (loads_of strct_int shp_zv)
      · exact cc2 wA (qO 0 50 rfl) (qO 1 51 rfl) (fresh_zn _) (fun w u v h1 h2 => g_zmul (by omega) w u v ((zn_zv hN0) _ _ h1) ((fun _ _ h => h) _ _ h2))
      · exact lod 3 wA (loads_of strct_int shp_zn)
      · exact lod 6 wA (loads_of strct_int shp_zn)
      · exact lod 6 wA (loads_of strct_int shp_zn)
      · exact cc2 wA (qO 4 54 rfl) (qO 5 55 rfl) (fresh_zn _) (fun w u v h1 h2 => g_zmul (by omega) w u v ((zn_zv hq3) _ _ h1) ((zn_zv hq3) _ _ h2))
      · exact cc2 wA (qO 3 53 rfl) (qO 6 56 rfl) (fresh_zn _) (fun w u v h1 h2 => g_zmul (by omega) w u v ((zn_zv hR0) _ _ h1) ((zn_zv hq4) _ _ h2))
      · exact cc2 wA (qO 2 52 rfl) (qO 7 57 rfl) (fresh_zn _) (fun w u0 u1 h0 h1 => Gives.cast ((fun w u v h1 h2 => g_zadd (by omega) (by omega) w u v ((zn_zv hq6) _ _ h1) ((zn_zv hq5) _ _ h2)) w u0 u1 h0 h1) (by rfl))
      · exact owe_set rfl wA rfl (k := 2) rfl (by kernel_rfl) (oO 8 58) (stores_of strct_int shp_zn shp_zn) rfl
    intro B11 a11 W11 (S11 : Sta w 83 [(2, (.box 34 (AM (Vv nD D K) (Mv nL L K) (Vv nT τ K) (Zv dn K)))), (4, (.box 27 zR)), (5, (.box 25 ((ZN (fM D sh L nL k0 (fS D sh L nL k0))) w.heap.size))), (6, (.box 25 ((ZN ((fS D sh L nL k0).2)) w.heap.size))), (7, (.box 25 (Zv (D.getD (nL - 1 - k0) 0) K))), (11, (.box 25 (Zv (D.getD (nL - 1 - k0 + 1) 0) K)))] [(18, Vv m sh Ks), (19, iV (m : Nat)), (20, iV (k0 : Nat)), (1, Vv m sh Ks)] _ _ _)
    by_cases hr : rm (fM D sh L nL k0 (fS D sh L nL k0)) (D.getD (nL - 1 - k0 + 1) 0) = 0
    · skip
      refine wp_stmt_seq [.val ((ZN (fM D sh L nL k0 (fS D sh L nL k0))) w.heap.size), .val (Zv (D.getD (nL - 1 - k0 + 1) 0) K), .val ((TWO (ZN (fl (fM D sh L nL k0 (fS D sh L nL k0)) (D.getD (nL - 1 - k0 + 1) 0))) (IS (.int .i64 0))) w.heap.size), .val ((TWO (ZN (fl (fM D sh L nL k0 (fS D sh L nL k0)) (D.getD (nL - 1 - k0 + 1) 0))) (IS (.int .i64 0))) w.heap.size), .val ((ZN (fl (fM D sh L nL k0 (fS D sh L nL k0)) (D.getD (nL - 1 - k0 + 1) 0))) w.heap.size), .val (iV 0), .new (.box 25 zI), .put (.inr 6) (.box 25 ((ZN (fl (fM D sh L nL k0 (fS D sh L nL k0)) (D.getD (nL - 1 - k0 + 1) 0))) w.heap.size)), .val (iV 0)] [.inr 0, .inr 1, .inr 2, .inr 3, .inr 4, .inr 5, .inl 6] [.inl 8, .inr 0, .inr 1, .inr 2, .inr 3] follows S11 rfl (by kernel_rfl) ?_ ?_
      · repeat' refine And.intro ?_ ?_
        · trivial
        · exact lod 2 wA (loads_of strct_int shp_zn)
        · exact lod 5 wA (loads_of strct_int shp_zv)
        · exact cc2 wA (qO 0 60 rfl) (qO 1 61 rfl) (fresh_two (fresh_zn _) (fresh_is _)) (fun w u v h1 h2 => g_zexact2 hdm hr (by omega) w u v ((zn_zv hq7) _ _ h1) ((fun _ _ h => h) _ _ h2))
        · exact mO 2 62
        · exact e20 wA (oO 3 59)
        · exact e21 wA (oO 3 59)
        · exact owe_new rfl wA rfl rfl (fun ρ w => alloc_int ρ _ w)
        · exact owe_put 6 rfl wA rfl (by kernel_rfl) rfl (oO 4 63) (stores_of strct_int shp_z0 shp_zn) rfl
        · exact mO 5 64
      intro B12 a12 W12 (S12 : Sta w 83 [(2, (.box 34 (AM (Vv nD D K) (Mv nL L K) (Vv nT τ K) (Zv dn K)))), (4, (.box 27 zR)), (5, (.box 25 ((ZN (fM D sh L nL k0 (fS D sh L nL k0))) w.heap.size))), (6, (.box 25 ((ZN ((fS D sh L nL k0).2)) w.heap.size))), (7, (.box 25 (Zv (D.getD (nL - 1 - k0) 0) K))), (11, (.box 25 (Zv (D.getD (nL - 1 - k0 + 1) 0) K))), (13, (.box 25 ((ZN (fl (fM D sh L nL k0 (fS D sh L nL k0)) (D.getD (nL - 1 - k0 + 1) 0))) w.heap.size)))] [(14, iV 0), (18, Vv m sh Ks), (19, iV (m : Nat)), (20, iV (k0 : Nat)), (1, Vv m sh Ks)] _ _ _)
      refine wp_stmt_seq [.val (iV 0), kT] [.inr 0, .inr 1, .inr 2, .inr 3, .inr 4, .inr 5, .inr 6] [.inl 1, .inr 1, .inr 2, .inr 3, .inr 4] follows S12 rfl (by kernel_rfl) ?_ ?_
      · refine ⟨⟨trivial, ?_⟩, ?_⟩
        · exact mS 0 14
        · exact b_eql_errno_t wA (oO 0 65) (opnd_const _) (h := rfl)
      intro B13 a13 W13 (S13 : Sta w 83 [(2, (.box 34 (AM (Vv nD D K) (Mv nL L K) (Vv nT τ K) (Zv dn K)))), (4, (.box 27 zR)), (5, (.box 25 ((ZN (fM D sh L nL k0 (fS D sh L nL k0))) w.heap.size))), (6, (.box 25 ((ZN ((fS D sh L nL k0).2)) w.heap.size))), (7, (.box 25 (Zv (D.getD (nL - 1 - k0) 0) K))), (11, (.box 25 (Zv (D.getD (nL - 1 - k0 + 1) 0) K))), (13, (.box 25 ((ZN (fl (fM D sh L nL k0 (fS D sh L nL k0)) (D.getD (nL - 1 - k0 + 1) 0))) w.heap.size)))] [(66, bT), (18, Vv m sh Ks), (19, iV (m : Nat)), (20, iV (k0 : Nat)), (1, Vv m sh Ks)] _ _ _)
      refine wp_cond_true (S13.bool 0 66 rfl) ?_
      · skip
        have e1 : fl (fM D sh L nL k0 (fS D sh L nL k0)) (D.getD (nL - 1 - k0 + 1) 0) = (fS D sh L nL (k0 + 1)).1 := by rw [fS, if_pos hr]
        have e2 : (fS D sh L nL k0).2 = (fS D sh L nL (k0 + 1)).2 := by rw [fS, if_pos hr]
        rw [e1, e2] at S13
        replace S13 : Sta w 83 [(2, (.box 34 (AM (Vv nD D K) (Mv nL L K) (Vv nT τ K) (Zv dn K)))), (4, (.box 27 zR)), (5, (.box 25 ((ZN (fM D sh L nL k0 (fS D sh L nL k0))) w.heap.size))), (6, (.box 25 ((ZN ((fS D sh L nL (k0 + 1)).2)) w.heap.size))), (7, (.box 25 (Zv (D.getD (nL - 1 - k0) 0) K))), (11, (.box 25 (Zv (D.getD (nL - 1 - k0 + 1) 0) K))), (13, (.box 25 ((ZN ((fS D sh L nL (k0 + 1)).1)) w.heap.size)))] [(66, bT), (18, Vv m sh Ks), (19, iV (m : Nat)), (20, iV (k0 : Nat)), (1, Vv m sh Ks)] B13 a13 W13 := S13
        refine wp_stmt [.val ((ZN ((fS D sh L nL (k0 + 1)).1)) w.heap.size), .put (.inl 5) (.box 25 ((ZN ((fS D sh L nL (k0 + 1)).1)) w.heap.size))] [.inr 0, .inr 1, .inr 2, .inr 3, .inr 4] [.inr 1, .inr 2, .inr 3, .inr 4] follows S13 rfl (by kernel_rfl) ?_ ?_
        · refine ⟨⟨trivial, ?_⟩, ?_⟩
          · exact lod 6 wA (loads_of strct_int shp_zn)
          · exact owe_set rfl wA rfl (k := 2) rfl (by kernel_rfl) (oO 0 67) (stores_of strct_int shp_zn shp_zn) rfl
        intro B14 a14 W14 (S14 : Sta w 83 [(2, (.box 34 (AM (Vv nD D K) (Mv nL L K) (Vv nT τ K) (Zv dn K)))), (4, (.box 27 zR)), (5, (.box 25 ((ZN ((fS D sh L nL (k0 + 1)).1)) w.heap.size))), (6, (.box 25 ((ZN ((fS D sh L nL (k0 + 1)).2)) w.heap.size))), (7, (.box 25 (Zv (D.getD (nL - 1 - k0) 0) K)))] [(18, Vv m sh Ks), (19, iV (m : Nat)), (20, iV (k0 : Nat)), (1, Vv m sh Ks)] _ _ _)
        refine inBlkN ?_
        refine thenN ?_
        refine wp_stmt [.val (iV (k0 + 1 : Nat)), .val (iV (k0 + 1 : Nat))] [.inr 0, .inr 1, .inr 2, .inr 3, .inr 4] [.inl 1, .inr 0, .inr 1, .inr 3] follows S14 rfl (by kernel_rfl) ?_ ?_
        · refine ⟨⟨trivial, ?_⟩, ?_⟩
          · exact b_add_int wA (oS 2 20) (opnd_const _)
          · exact mO 0 71
        intro B15 a15 W15 (S15 : Sta w 83 [(2, (.box 34 (AM (Vv nD D K) (Mv nL L K) (Vv nT τ K) (Zv dn K)))), (4, (.box 27 zR)), (5, (.box 25 ((ZN ((fS D sh L nL (k0 + 1)).1)) w.heap.size))), (6, (.box 25 ((ZN ((fS D sh L nL (k0 + 1)).2)) w.heap.size))), (7, (.box 25 (Zv (D.getD (nL - 1 - k0) 0) K)))] [(20, iV (k0 + 1 : Nat)), (18, Vv m sh Ks), (19, iV (m : Nat)), (1, Vv m sh Ks)] _ _ _)
        refine thenN ?_
        exact ⟨k0 + 1, ⟨by omega, B15, S15.sub [0, 1, 2, 3, 4] [1, 2, 0, 3]⟩, by omega⟩
    · skip
      refine wp_stmt_seq [.val ((ZN (fM D sh L nL k0 (fS D sh L nL k0))) w.heap.size), .val (Zv (D.getD (nL - 1 - k0 + 1) 0) K), .val ((TWO (IS (.agg #[.bool false, .slice none 0 0])) (IS (.int .i64 20))) w.heap.size), .val ((TWO (IS (.agg #[.bool false, .slice none 0 0])) (IS (.int .i64 20))) w.heap.size), .val zI, .val (iV 20), .new (.box 25 zI), .put (.inr 6) (.box 25 zI), .val (iV 20)] [.inr 0, .inr 1, .inr 2, .inr 3, .inr 4, .inr 5, .inl 6] [.inl 8, .inr 0, .inr 1, .inr 2, .inr 3] follows S11 rfl (by kernel_rfl) ?_ ?_
      · repeat' refine And.intro ?_ ?_
        · trivial
        · exact lod 2 wA (loads_of strct_int shp_zn)
        · exact lod 5 wA (loads_of strct_int shp_zv)
        · exact cc2 wA (qO 0 60 rfl) (qO 1 61 rfl) (fresh_two (fresh_is _) (fresh_is _)) (fun w u v h1 h2 => g_zexact1 hdm hr (by omega) w u v ((zn_zv hq7) _ _ h1) ((fun _ _ h => h) _ _ h2))
        · exact mO 2 62
        · exact e20 wA (oO 3 59)
        · exact e21 wA (oO 3 59)
        · exact owe_new rfl wA rfl rfl (fun ρ w => alloc_int ρ _ w)
        · exact owe_put 6 rfl wA rfl (by kernel_rfl) rfl (oO 4 63) (stores_of strct_int shp_z0 shp_z0) rfl
        · exact mO 5 64
      intro B12 a12 W12 (S12 : Sta w 83 [(2, (.box 34 (AM (Vv nD D K) (Mv nL L K) (Vv nT τ K) (Zv dn K)))), (4, (.box 27 zR)), (5, (.box 25 ((ZN (fM D sh L nL k0 (fS D sh L nL k0))) w.heap.size))), (6, (.box 25 ((ZN ((fS D sh L nL k0).2)) w.heap.size))), (7, (.box 25 (Zv (D.getD (nL - 1 - k0) 0) K))), (11, (.box 25 (Zv (D.getD (nL - 1 - k0 + 1) 0) K))), (13, (.box 25 zI))] [(14, iV 20), (18, Vv m sh Ks), (19, iV (m : Nat)), (20, iV (k0 : Nat)), (1, Vv m sh Ks)] _ _ _)
      refine wp_stmt_seq [.val (iV 20), kF] [.inr 0, .inr 1, .inr 2, .inr 3, .inr 4, .inr 5, .inr 6] [.inl 1, .inr 1, .inr 2, .inr 3, .inr 4] follows S12 rfl (by kernel_rfl) ?_ ?_
      · refine ⟨⟨trivial, ?_⟩, ?_⟩
        · exact mS 0 14
        · exact b_eql_errno_f wA (oO 0 65) (opnd_const _) (h := by decide)
      intro B13 a13 W13 (S13 : Sta w 83 [(2, (.box 34 (AM (Vv nD D K) (Mv nL L K) (Vv nT τ K) (Zv dn K)))), (4, (.box 27 zR)), (5, (.box 25 ((ZN (fM D sh L nL k0 (fS D sh L nL k0))) w.heap.size))), (6, (.box 25 ((ZN ((fS D sh L nL k0).2)) w.heap.size))), (7, (.box 25 (Zv (D.getD (nL - 1 - k0) 0) K))), (11, (.box 25 (Zv (D.getD (nL - 1 - k0 + 1) 0) K))), (13, (.box 25 zI))] [(66, bF), (18, Vv m sh Ks), (19, iV (m : Nat)), (20, iV (k0 : Nat)), (1, Vv m sh Ks)] _ _ _)
      refine wp_cond_false (S13.bool 0 66 rfl) ?_
      · skip
        have e1 : fM D sh L nL k0 (fS D sh L nL k0) = (fS D sh L nL (k0 + 1)).1 := by rw [fS, if_neg hr]
        have e2 : ((fS D sh L nL k0).2) * (D.getD (nL - 1 - k0 + 1) 0) = (fS D sh L nL (k0 + 1)).2 := by rw [fS, if_neg hr]
        rw [e1] at S13
        replace S13 : Sta w 83 [(2, (.box 34 (AM (Vv nD D K) (Mv nL L K) (Vv nT τ K) (Zv dn K)))), (4, (.box 27 zR)), (5, (.box 25 ((ZN ((fS D sh L nL (k0 + 1)).1)) w.heap.size))), (6, (.box 25 ((ZN ((fS D sh L nL k0).2)) w.heap.size))), (7, (.box 25 (Zv (D.getD (nL - 1 - k0) 0) K))), (11, (.box 25 (Zv (D.getD (nL - 1 - k0 + 1) 0) K))), (13, (.box 25 zI))] [(66, bF), (18, Vv m sh Ks), (19, iV (m : Nat)), (20, iV (k0 : Nat)), (1, Vv m sh Ks)] B13 a13 W13 := S13
        refine wp_stmt [.val ((ZN ((fS D sh L nL k0).2)) w.heap.size), .val (Zv (D.getD (nL - 1 - k0 + 1) 0) K), .val ((ZN ((fS D sh L nL (k0 + 1)).2)) w.heap.size), .put (.inl 6) (.box 25 ((ZN ((fS D sh L nL (k0 + 1)).2)) w.heap.size))] [.inr 0, .inr 1, .inr 2, .inr 3, .inr 4] [.inr 1, .inr 2, .inr 3, .inr 4] follows S13 rfl (by kernel_rfl) ?_ ?_
        · refine ⟨⟨⟨⟨trivial, ?_⟩, ?_⟩, ?_⟩, ?_⟩
          · exact lod 3 wA (loads_of strct_int shp_zn)
          · exact lod 5 wA (loads_of strct_int shp_zv)
          · exact cc2 wA (qO 0 68 rfl) (qO 1 69 rfl) (fresh_zn _) (fun w u0 u1 h0 h1 => Gives.cast ((fun w u v h1 h2 => g_zmul (by omega) w u v ((zn_zv hR0) _ _ h1) ((fun _ _ h => h) _ _ h2)) w u0 u1 h0 h1) (by rw [e2]))
          · exact owe_set rfl wA rfl (k := 3) rfl (by kernel_rfl) (oO 2 70) (stores_of strct_int shp_zn shp_zn) rfl
        intro B14 a14 W14 (S14 : Sta w 83 [(2, (.box 34 (AM (Vv nD D K) (Mv nL L K) (Vv nT τ K) (Zv dn K)))), (4, (.box 27 zR)), (5, (.box 25 ((ZN ((fS D sh L nL (k0 + 1)).1)) w.heap.size))), (6, (.box 25 ((ZN ((fS D sh L nL (k0 + 1)).2)) w.heap.size))), (7, (.box 25 (Zv (D.getD (nL - 1 - k0) 0) K)))] [(18, Vv m sh Ks), (19, iV (m : Nat)), (20, iV (k0 : Nat)), (1, Vv m sh Ks)] _ _ _)
        refine inBlkN ?_
        refine thenN ?_
        refine wp_stmt [.val (iV (k0 + 1 : Nat)), .val (iV (k0 + 1 : Nat))] [.inr 0, .inr 1, .inr 2, .inr 3, .inr 4] [.inl 1, .inr 0, .inr 1, .inr 3] follows S14 rfl (by kernel_rfl) ?_ ?_
        · refine ⟨⟨trivial, ?_⟩, ?_⟩
          · exact b_add_int wA (oS 2 20) (opnd_const _)
          · exact mO 0 71
        intro B15 a15 W15 (S15 : Sta w 83 [(2, (.box 34 (AM (Vv nD D K) (Mv nL L K) (Vv nT τ K) (Zv dn K)))), (4, (.box 27 zR)), (5, (.box 25 ((ZN ((fS D sh L nL (k0 + 1)).1)) w.heap.size))), (6, (.box 25 ((ZN ((fS D sh L nL (k0 + 1)).2)) w.heap.size))), (7, (.box 25 (Zv (D.getD (nL - 1 - k0) 0) K)))] [(20, iV (k0 + 1 : Nat)), (18, Vv m sh Ks), (19, iV (m : Nat)), (1, Vv m sh Ks)] _ _ _)
        refine thenN ?_
        exact ⟨k0 + 1, ⟨by omega, B15, S15.sub [0, 1, 2, 3, 4] [1, 2, 0, 3]⟩, by omega⟩
  · have ek : k0 = m := by omega
    rw [ek] at S4
    have hz1 : (digs ((fS D sh L nL m).2 * fD D nL m).natAbs).length ≤ 34603008 := by
      have hfd : (digs (fD D nL m).natAbs).length ≤ K := by
        cases m with
        | zero => exact hK1
        | succ m => exact dl_getD hamd.1 _
      rw [Int.natAbs_mul]; exact Nat.le_trans (digs_mul_len (hR m (Nat.le_refl _)) hfd) (by omega)
    refine wp_stmt_seq [kF] [.inr 0, .inr 1, .inr 2, .inr 3, .inr 4] [.inl 0, .inr 0, .inr 1, .inr 2, .inr 3] follows S4 rfl (by kernel_rfl) ?_ ?_
    · refine ⟨trivial, ?_⟩
      · exact b_lss_int_f wA (oS 2 20) (oS 1 19)
    intro B5 a5 W5 (S5 : Sta w 83 [(2, (.box 34 (AM (Vv nD D K) (Mv nL L K) (Vv nT τ K) (Zv dn K)))), (4, (.box 27 zR)), (5, (.box 25 ((ZN ((fS D sh L nL m).1)) w.heap.size))), (6, (.box 25 ((ZN ((fS D sh L nL m).2)) w.heap.size))), (7, (.box 25 (Zv (fD D nL m) K)))] [(21, bF), (18, Vv m sh Ks), (19, iV (m : Nat)), (20, iV (m : Nat)), (1, Vv m sh Ks)] _ _ _)
    refine wp_seq ?_
    refine wp_cond_false (S5.bool 0 21 rfl) ?_
    refine wp_exit ?_
    refine thenX ?_
    refine thenX ?_
    refine inBlkE ?_
    refine thenN ?_
    refine wp_stmt_seq [.val ((ZN ((fS D sh L nL m).1)) w.heap.size), .val ((ZN ((fS D sh L nL m).2)) w.heap.size), .val (Zv (fD D nL m) K), .val ((ZN (((fS D sh L nL m).2) * (fD D nL m))) w.heap.size), .val (Part a5 2 3), .val (Zv dn K), .val (Part a5 2 3), .val (Zv dn K), .val ((ZN (dn * dn)) w.heap.size), .val ((ZN (((fS D sh L nL m).2 * fD D nL m) * (dn * dn))) w.heap.size), .val (PR ((ZN ((fS D sh L nL m).1)) w.heap.size) ((ZN (((fS D sh L nL m).2 * fD D nL m) * (dn * dn))) w.heap.size)), .put (.inl 4) (.box 27 (PR ((ZN ((fS D sh L nL m).1)) w.heap.size) ((ZN (((fS D sh L nL m).2 * fD D nL m) * (dn * dn))) w.heap.size)))] [.inr 0, .inr 1, .inr 2, .inr 3, .inr 4] [.inr 1, .inr 2, .inr 3, .inr 4] follows S5 rfl (by kernel_rfl) ?_ ?_
    · repeat' refine And.intro ?_ ?_
      · trivial
      · exact lod 2 wA (loads_of strct_int shp_zn)
      · exact lod 3 wA (loads_of strct_int shp_zn)
      · exact lod 4 wA (loads_of strct_int shp_zv)
      · exact cc2 wA (qO 1 73 rfl) (qO 2 74 rfl) (fresh_zn _) (fun w u v h1 h2 => g_zmul (by omega) w u v ((zn_zv (hR m (Nat.le_refl _))) _ _ h1) ((fun _ _ h => h) _ _ h2))
      · exact owe_part rfl wA rfl (k := 0) rfl (by kernel_rfl) rfl (fun ρ w b h => part_aim2 ρ _ _ w b 0 h)
      · exact owe_pload rfl wA rfl (oO 4 76) (k := 0) rfl (by kernel_rfl) rfl (fun ρ w b u h1 h2 h3 => pload_am3 ρ _ _ w b u h1 h2 h3)
      · exact owe_part rfl wA rfl (k := 0) rfl (by kernel_rfl) rfl (fun ρ w b h => part_aim2 ρ _ _ w b 0 h)
      · exact owe_pload rfl wA rfl (oO 6 78) (k := 0) rfl (by kernel_rfl) rfl (fun ρ w b u h1 h2 h3 => pload_am3 ρ _ _ w b u h1 h2 h3)
      · exact cc2 wA (qO 5 77 rfl) (qO 7 79 rfl) (fresh_zn _) (fun w u v h1 h2 => g_zmul (by omega) w u v ((fun _ _ h => h) _ _ h1) ((fun _ _ h => h) _ _ h2))
      · exact cc2 wA (qO 3 75 rfl) (qO 8 80 rfl) (fresh_zn _) (fun w u0 u1 h0 h1 => Gives.cast ((fun w u v h1 h2 => g_zmul (by omega) w u v ((zn_zv hz1) _ _ h1) ((zn_zv hz2) _ _ h2)) w u0 u1 h0 h1) (by rfl))
      · exact owe_build2 rfl wA rfl (oO 0 72) (oO 9 81) shp_zn shp_zn rfl
      · exact owe_set rfl wA rfl (k := 1) rfl (by kernel_rfl) (oO 10 82) (stores_of strct_rat shp_r0 (shp_pr shp_zn shp_zn)) rfl
    intro B6 a6 W6 (S6 : Sta w 83 [(2, (.box 34 (AM (Vv nD D K) (Mv nL L K) (Vv nT τ K) (Zv dn K)))), (4, (.box 27 (PR ((ZN ((fS D sh L nL m).1)) w.heap.size) ((ZN (((fS D sh L nL m).2 * fD D nL m) * (dn * dn))) w.heap.size)))), (5, (.box 25 ((ZN ((fS D sh L nL m).1)) w.heap.size))), (6, (.box 25 ((ZN ((fS D sh L nL m).2)) w.heap.size))), (7, (.box 25 (Zv (fD D nL m) K)))] [(18, Vv m sh Ks), (19, iV (m : Nat)), (20, iV (m : Nat)), (1, Vv m sh Ks)] _ _ _)
    refine wp_ret ?_
    exact end_one S6 rfl (res_cell S6 1 4 rfl strct_rat (shp_pr shp_zn shp_zn))

end Go.Proofs.YtdlgcklilfnhnaaGreatDoor

/-
  filter.Norm without a target.
-/
namespace Go.Proofs.YtdlgcklilfnhnaaGreatDoor
open Go Go.RowKit Nt
set_option linter.unusedSimpArgs false
set_option linter.unusedVariables false
set_option maxRecDepth 20000


theorem ce_impX {sz : Nat} {φs ψs : List Pr} {xs : List Value} {w : World} (hl : φs.length = ψs.length) (hi : ∀ (i : Nat) φ ψ, φs[i]? = some φ → ψs[i]? = some ψ → ∀ v, φ v w → ψ v w) (h : CE sz φs xs w) : CE sz ψs xs w := by
  obtain ⟨us, e, l, c, a⟩ := h
  refine ⟨us, e, l.trans hl, c, fun i u ψ hu hψ => ?_⟩
  obtain ⟨φ, hφ⟩ : ∃ φ, φs[i]? = some φ := ⟨φs[i]'(by rw [hl]; exact (List.getElem?_eq_some_iff.1 hψ).1), List.getElem?_eq_getElem _⟩
  exact hi i φ ψ hφ hψ u (a i u φ hu hφ)
theorem ce_zero {n lo : Nat} {xs : List Value} {w : World} (h : CE 2 (List.replicate n zI) xs w) : CE 2 (((List.replicate n (0 : Int)).map ZN).map (· lo)) xs w := by
  refine ce_impX (by simp) (fun i φ ψ hφ hψ v hv => ?_) h
  rw [List.getElem?_replicate] at hφ
  rw [List.getElem?_map, List.getElem?_map, List.getElem?_replicate] at hψ
  split at hφ
  · rename_i hi
    rw [if_pos hi] at hψ
    simp only [Option.some.injEq, Option.map_some] at hφ hψ
    subst hφ
    rw [← hψ]
    exact zero_zn v w hv
  · cases hφ
theorem dl_zeros (n K : Nat) : Dl (List.replicate n (0 : Int)) K := fun i z h => by
  rw [List.getElem?_replicate] at h
  split at h
  · simp only [Option.some.injEq] at h
    rw [← h]
    show (digs (0 : Int).natAbs).length ≤ K
    rw [show (0 : Int).natAbs = 0 from rfl, digs_zero]
    exact Nat.zero_le _
  · cases h
section
variable {ops : Array Oper} {l : List Kd} {bx : Bxs} {sl : List (Tmp × Pr)} {i : Nat} {o : Oper} {Q : Exit → Act → World → Prop} {a0 : Act} {n0 : Nat} {w0 : World}
theorem owe_callh4 {ψ : Nat → Pr} {f : FuncId} {x y z t : Operand} {ts : Array TypeId} {φ φ' φ'' φ3 : Pr} (ho : ops[i]? = some o) (hw : Wants ops l bx sl i o) (hop : o.op = .call { callee := .value (.func f), args := #[x, y, z, t], argTypes := ts }) (hx : Opnd ops l bx sl i x φ) (hy : Opnd ops l bx sl i y φ') (hz : Opnd ops l bx sl i z φ'') (ht : Opnd ops l bx sl i t φ3) (hF : Fresh ψ) (hk : kdAt l i = .val (ψ w0.heap.size))
    (hcf : ∀ args w, (callFunc f args).run Tryz.prog w = .ok (.enter f args) w) (C : ∀ w u v s r, Hs w φ u → Hs w φ' v → Hs w φ'' s → Hs w φ3 r → Calls Tryz.prog f #[u, v, s, r] w (Gives ψ w)) : Owed Tryz.prog ops Q l bx sl a0 n0 w0 i :=
  owe_call ho hw hop hF hk hcf fun vs B a w c => by
    rw [show (#[x, y, z, t] : Array Operand).map a.eval = #[a.eval x, a.eval y, a.eval z, a.eval t] from by simp]
    exact C w _ _ _ _ (hx a0 n0 w0 vs B a w c).hs (hy a0 n0 w0 vs B a w c).hs (hz a0 n0 w0 vs B a w c).hs (ht a0 n0 w0 vs B a w c).hs
end

set_option maxHeartbeats 400000 in
theorem mayb_0 (w : World) :
    Calls Tryz.prog 33 #[.slice none 0 0] w (Gives (IS (.bool true)) w) := by
  refine calls_sta (sl := [(0, (Is (.slice none 0 0)))]) Tryz.func33 rfl Tryz.ntmps33 (by simp) (args_cons rfl (is_has _) args_nil) ?_
  intro a0 S0
  refine wp_stmt_seq [kF] [] [.inr 0] follows S0 rfl (by kernel_rfl) ?_ ?_
  · refine ⟨trivial, ?_⟩
    · exact mC
  intro B1 a1 W1 (S1 : Sta w 16 [] [(0, Is (.slice none 0 0))] _ _ _)
  refine wp_seq ?_
  refine wp_stmt_seq [.val (Is (.slice none 0 0)), .val (iV (0 : Nat)), .val (iV 0)] [] [.inl 0, .inl 1, .inl 2] follows S1 rfl (by kernel_rfl) ?_ ?_
  · refine ⟨⟨⟨trivial, ?_⟩, ?_⟩, ?_⟩
    · exact mS 0 0
    · exact owe_len rfl wA rfl (oO 0 5) is_len Tryz.underlying88 rfl
    · exact mC
  intro B2 a2 W2 (S2 : Sta w 16 [] [(5, Is (.slice none 0 0)), (6, iV (0 : Nat)), (7, iV 0)] _ _ _)
  refine wp_block ?_
  refine wp_loop_ghost (fun (k0 : Nat) a W => (k0 = 0) ∧ ∃ Bq, Sta w 16 [] [(5, Is (.slice none 0 0)), (6, iV (0 : Nat)), (7, iV (k0 : Nat))] Bq a W) (fun (k0 : Nat) => 0) ?_ 0 ⟨rfl, B2, S2.sub [] [0, 1, 2]⟩
  rintro k0 a3 W3 ⟨hcond, B3, S3⟩
  · skip
    refine wp_stmt_seq [kF] [] [.inl 0, .inr 0, .inr 1, .inr 2] follows S3 rfl (by kernel_rfl) ?_ ?_
    · refine ⟨trivial, ?_⟩
      · exact b_lss_int_f wA (oS 2 7) (oS 1 6)
    intro B4 a4 W4 (S4 : Sta w 16 [] [(8, bF), (5, Is (.slice none 0 0)), (6, iV (0 : Nat)), (7, iV (k0 : Nat))] _ _ _)
    refine wp_seq ?_
    refine wp_cond_false (S4.bool 0 8 rfl) ?_
    refine wp_exit ?_
    refine thenX ?_
    refine thenX ?_
    refine inBlkE ?_
    refine thenN ?_
    refine wp_stmt_seq [kT] [] [.inl 0, .inr 1, .inr 2, .inr 3] follows S4 rfl (by kernel_rfl) ?_ ?_
    · refine ⟨trivial, ?_⟩
      · exact mC
    intro B5 a5 W5 (S5 : Sta w 16 [] [(2, bT), (5, Is (.slice none 0 0)), (6, iV (0 : Nat)), (7, iV (k0 : Nat))] _ _ _)
    refine wp_ret ?_
    exact end_one S5 rfl (res_tmp S5 0 2 rfl)

set_option maxHeartbeats 400000 in
theorem comm_0 (w : World) :
    Calls Tryz.prog 74 #[.slice none 0 0] w (Gives (ZN (1)) w) := by
  refine calls_sta (sl := [(0, (Is (.slice none 0 0)))]) Tryz.func74 rfl Tryz.ntmps74 (by simp) (args_cons rfl (is_has _) args_nil) ?_
  intro a0 S0
  refine wp_stmt_seq [.new (.box 25 zI)] [.inl 0] [.inr 0] follows S0 rfl (by kernel_rfl) ?_ ?_
  · refine ⟨trivial, ?_⟩
    · exact owe_new rfl wA rfl rfl (fun ρ w => alloc_int ρ _ w)
  intro B1 a1 W1 (S1 : Sta w 30 [(2, (.box 25 zI))] [(0, Is (.slice none 0 0))] _ _ _)
  refine wp_stmt_seq [.val ((ZN (1)) w.heap.size), .new (.box 25 zI), .put (.inr 1) (.box 25 ((ZN (1)) w.heap.size))] [.inr 0, .inl 1] [.inr 0] follows S1 rfl (by kernel_rfl) ?_ ?_
  · refine ⟨⟨⟨trivial, ?_⟩, ?_⟩, ?_⟩
    · exact cc1 wA (opnd_const _) (fresh_zn _) (g_zof (1) (by omega) (by omega))
    · exact owe_new rfl wA rfl rfl (fun ρ w => alloc_int ρ _ w)
    · exact owe_put 1 rfl wA rfl (by kernel_rfl) rfl (oO 0 8) (stores_of strct_int shp_z0 shp_zn) rfl
  intro B2 a2 W2 (S2 : Sta w 30 [(2, (.box 25 zI)), (3, (.box 25 ((ZN (1)) w.heap.size)))] [(0, Is (.slice none 0 0))] _ _ _)
  refine wp_seq ?_
  refine wp_stmt_seq [.val (Is (.slice none 0 0)), .val (iV (0 : Nat)), .val (iV 0)] [.inr 0, .inr 1] [.inl 0, .inl 1, .inl 2] follows S2 rfl (by kernel_rfl) ?_ ?_
  · refine ⟨⟨⟨trivial, ?_⟩, ?_⟩, ?_⟩
    · exact mS 0 0
    · exact owe_len rfl wA rfl (oO 0 9) is_len Tryz.underlying88 rfl
    · exact mC
  intro B3 a3 W3 (S3 : Sta w 30 [(2, (.box 25 zI)), (3, (.box 25 ((ZN (1)) w.heap.size)))] [(9, Is (.slice none 0 0)), (10, iV (0 : Nat)), (11, iV 0)] _ _ _)
  refine wp_block ?_
  refine wp_loop_ghost (fun (k0 : Nat) a W => (k0 = 0) ∧ ∃ Bq, Sta w 30 [(2, (.box 25 zI)), (3, (.box 25 ((ZN (1)) w.heap.size)))] [(9, Is (.slice none 0 0)), (10, iV (0 : Nat)), (11, iV (k0 : Nat))] Bq a W) (fun (k0 : Nat) => 0) ?_ 0 ⟨rfl, B3, S3.sub [0, 1] [0, 1, 2]⟩
  rintro k0 a4 W4 ⟨hcond, B4, S4⟩
  · skip
    refine wp_stmt_seq [kF] [.inr 0, .inr 1] [.inl 0, .inr 0, .inr 1, .inr 2] follows S4 rfl (by kernel_rfl) ?_ ?_
    · refine ⟨trivial, ?_⟩
      · exact b_lss_int_f wA (oS 2 11) (oS 1 10)
    intro B5 a5 W5 (S5 : Sta w 30 [(2, (.box 25 zI)), (3, (.box 25 ((ZN (1)) w.heap.size)))] [(12, bF), (9, Is (.slice none 0 0)), (10, iV (0 : Nat)), (11, iV (k0 : Nat))] _ _ _)
    refine wp_seq ?_
    refine wp_cond_false (S5.bool 0 12 rfl) ?_
    refine wp_exit ?_
    refine thenX ?_
    refine thenX ?_
    refine inBlkE ?_
    refine thenN ?_
    refine wp_stmt_seq [.val ((ZN (1)) w.heap.size), .put (.inl 2) (.box 25 ((ZN (1)) w.heap.size))] [.inr 0, .inr 1] [.inr 1, .inr 2, .inr 3] follows S5 rfl (by kernel_rfl) ?_ ?_
    · refine ⟨⟨trivial, ?_⟩, ?_⟩
      · exact lod 1 wA (loads_of strct_int shp_zn)
      · exact owe_set rfl wA rfl (k := 0) rfl (by kernel_rfl) (oO 0 29) (stores_of strct_int shp_z0 shp_zn) rfl
    intro B6 a6 W6 (S6 : Sta w 30 [(2, (.box 25 ((ZN (1)) w.heap.size))), (3, (.box 25 ((ZN (1)) w.heap.size)))] [(9, Is (.slice none 0 0)), (10, iV (0 : Nat)), (11, iV (k0 : Nat))] _ _ _)
    refine wp_ret ?_
    exact end_one S6 rfl (res_cell S6 0 2 rfl strct_int shp_zn)

set_option maxHeartbeats 400000 in
theorem whol_0 (w : World) :
    Calls Tryz.prog 51 #[.slice none 0 0] w (Gives (TWO (VN 0 (([] : List Int))) (ZN (1))) w) := by
  refine calls_sta (sl := [(0, (Is (.slice none 0 0)))]) Tryz.func51 rfl Tryz.ntmps51 (by simp) (args_cons rfl (is_has _) args_nil) ?_
  intro a0 S0
  refine wp_stmt_seq [.val (Is (.slice none 0 0)), .new (.box 25 zI)] [.inl 1] [.inr 0] follows S0 rfl (by kernel_rfl) ?_ ?_
  · refine ⟨⟨trivial, ?_⟩, ?_⟩
    · exact mC
    · exact owe_new rfl wA rfl rfl (fun ρ w => alloc_int ρ _ w)
  intro B1 a1 W1 (S1 : Sta w 39 [(3, (.box 25 zI))] [(0, Is (.slice none 0 0))] _ _ _)
  refine wp_stmt_seq [.val (Is (.slice none 0 0)), .val ((ZN (1)) w.heap.size), .new (.box 25 zI), .put (.inr 2) (.box 25 ((ZN (1)) w.heap.size))] [.inr 0, .inl 2] [.inr 0] follows S1 rfl (by kernel_rfl) ?_ ?_
  · refine ⟨⟨⟨⟨trivial, ?_⟩, ?_⟩, ?_⟩, ?_⟩
    · exact mS 0 0
    · exact ch1 wA (qO 0 10 rfl) (fresh_zn _) (fun w u h => by obtain rfl : u = _ := h.now; exact comm_0 w)
    · exact owe_new rfl wA rfl rfl (fun ρ w => alloc_int ρ _ w)
    · exact owe_put 2 rfl wA rfl (by kernel_rfl) rfl (oO 1 11) (stores_of strct_int shp_z0 shp_zn) rfl
  intro B2 a2 W2 (S2 : Sta w 39 [(3, (.box 25 zI)), (4, (.box 25 ((ZN (1)) w.heap.size)))] [(0, Is (.slice none 0 0))] _ _ _)
  refine wp_stmt_seq [.val (Is (.slice none 0 0)), .val (iV (0 : Nat)), .new (.row 25 2 0 (CE 2 (List.replicate 0 zI))), .ref 2] [.inr 0, .inr 1, .inl 3] [.inr 0] follows S2 rfl (by kernel_rfl) ?_ ?_
  · refine ⟨⟨⟨⟨trivial, ?_⟩, ?_⟩, ?_⟩, ?_⟩
    · exact mS 0 0
    · exact owe_len rfl wA rfl (oO 0 12) is_len Tryz.underlying88 rfl
    · exact owe_makeE rfl wA rfl Tryz.underlying22 infoInt celv_z0 (by decide) (oO 1 13) ⟨by omega, by unfold maxLen; omega⟩ rfl
    · exact owe_ref 2 rfl wA (Or.inr rfl) (by kernel_rfl) rfl rfl
  intro B3 a3 W3 (S3 : Sta w 39 [(3, (.box 25 zI)), (4, (.box 25 ((ZN (1)) w.heap.size))), (5, (.row 25 2 0 (CE 2 (List.replicate 0 zI))))] [(0, Is (.slice none 0 0))] _ _ _)
  refine wp_seq ?_
  refine wp_stmt_seq [.val (Is (.slice none 0 0)), .val (iV (0 : Nat)), .val (iV 0)] [.inr 0, .inr 1, .inr 2] [.inl 0, .inl 1, .inl 2] follows S3 rfl (by kernel_rfl) ?_ ?_
  · refine ⟨⟨⟨trivial, ?_⟩, ?_⟩, ?_⟩
    · exact mS 0 0
    · exact owe_len rfl wA rfl (oO 0 15) is_len Tryz.underlying88 rfl
    · exact mC
  intro B4 a4 W4 (S4 : Sta w 39 [(3, (.box 25 zI)), (4, (.box 25 ((ZN (1)) w.heap.size))), (5, (.row 25 2 0 (CE 2 (List.replicate 0 zI))))] [(15, Is (.slice none 0 0)), (16, iV (0 : Nat)), (17, iV 0)] _ _ _)
  refine wp_block ?_
  refine wp_loop_ghost (fun (k0 : Nat) a W => (k0 = 0) ∧ ∃ Bq, Sta w 39 [(3, (.box 25 zI)), (4, (.box 25 ((ZN (1)) w.heap.size))), (5, (.row 25 2 0 (CE 2 (List.replicate 0 zI))))] [(15, Is (.slice none 0 0)), (16, iV (0 : Nat)), (17, iV (k0 : Nat))] Bq a W) (fun (k0 : Nat) => 0) ?_ 0 ⟨rfl, B4, S4.sub [0, 1, 2] [0, 1, 2]⟩
  rintro k0 a5 W5 ⟨hcond, B5, S5⟩
  · skip
    refine wp_stmt_seq [kF] [.inr 0, .inr 1, .inr 2] [.inl 0, .inr 0, .inr 1, .inr 2] follows S5 rfl (by kernel_rfl) ?_ ?_
    · refine ⟨trivial, ?_⟩
      · exact b_lss_int_f wA (oS 2 17) (oS 1 16)
    intro B6 a6 W6 (S6 : Sta w 39 [(3, (.box 25 zI)), (4, (.box 25 ((ZN (1)) w.heap.size))), (5, (.row 25 2 0 (CE 2 (List.replicate 0 zI))))] [(18, bF), (15, Is (.slice none 0 0)), (16, iV (0 : Nat)), (17, iV (k0 : Nat))] _ _ _)
    refine wp_seq ?_
    refine wp_cond_false (S6.bool 0 18 rfl) ?_
    refine wp_exit ?_
    refine thenX ?_
    refine thenX ?_
    refine inBlkE ?_
    refine thenN ?_
    obtain ⟨B7, S7⟩ : ∃ Bq, Sta w 39 [(3, (.box 25 zI)), (4, (.box 25 ((ZN (1)) w.heap.size)))] [(5, ((VN 0 (([] : List Int))) w.heap.size)), (18, bF), (15, Is (.slice none 0 0)), (16, iV (0 : Nat)), (17, iV (k0 : Nat))] Bq a6 W6 := ⟨_, S6.freeze 2 rfl (by simp) (fun v w' xs ho hc => row_lf (by decide) v w' xs ho (ce_zero (n := 0) hc))⟩
    obtain ⟨a7, W7, e1, e2⟩ : ∃ a W, a6 = a ∧ W6 = W := ⟨_, _, rfl, rfl⟩
    rw [e1, e2] at S7 ⊢
    clear e1 e2
    refine wp_stmt_seq [.val ((VN 0 (([] : List Int))) w.heap.size), .val ((ZN (1)) w.heap.size), .val ((VN 0 (([] : List Int))) w.heap.size), .put (.inl 3) (.box 25 ((ZN (1)) w.heap.size))] [.inr 0, .inr 1] [.inl 2, .inr 0, .inr 2, .inr 3, .inr 4] follows S7 rfl (by kernel_rfl) ?_ ?_
    · refine ⟨⟨⟨⟨trivial, ?_⟩, ?_⟩, ?_⟩, ?_⟩
      · exact mS 0 5
      · exact lod 1 wA (loads_of strct_int shp_zn)
      · exact mO 0 37
      · exact owe_set rfl wA rfl (k := 0) rfl (by kernel_rfl) (oO 1 38) (stores_of strct_int shp_z0 shp_zn) rfl
    intro B8 a8 W8 (S8 : Sta w 39 [(3, (.box 25 ((ZN (1)) w.heap.size))), (4, (.box 25 ((ZN (1)) w.heap.size)))] [(2, ((VN 0 (([] : List Int))) w.heap.size)), (5, ((VN 0 (([] : List Int))) w.heap.size)), (15, Is (.slice none 0 0)), (16, iV (0 : Nat)), (17, iV (k0 : Nat))] _ _ _)
    refine wp_ret ?_
    exact end_two S8 rfl (res_tmp S8 0 2 rfl) (res_cell S8 0 3 rfl strct_int shp_zn)


theorem sf_is2 {a b : Value} (w : World) (h1 : a.oneCell' = true := by rfl) (h2 : b.oneCell' = true := by rfl) : SF [Is a, Is b] (.agg #[a, b]) w := ⟨_, rfl, rfl, by simp [h1, h2], fun f q hq => by
  match f, hq with
  | 0, hq => simp at hq; subst hq; exact ⟨_, rfl, rfl⟩
  | 1, hq => simp at hq; subst hq; exact ⟨_, rfl, rfl⟩⟩

set_option maxHeartbeats 400000 in
theorem aimof_0 (w : World) (a : Option Addr) (nD cD : Nat) (b : Option Addr) (nL cL : Nat) (hL : nL ≤ 1048576) :
    Calls Tryz.prog 29 #[.agg #[.slice a nD cD, .slice b nL cL], .slice none 0 0] w (Gives (AMI (.slice a nD cD) (.slice b nL cL) nL (List.replicate nL 0) 1) w) := by
  refine calls_sta (sl := [(0, (SF [(Is (.slice a nD cD)), (Is (.slice b nL cL))])), (1, (Is (.slice none 0 0)))]) Tryz.func29 rfl Tryz.ntmps29 (by simp) (args_cons rfl (fun w2 _ => sf_is2 w2) (args_cons rfl (is_has _) args_nil)) ?_
  intro a0 S0
  refine wp_stmt_seq [.new (.box 32 (SF [(Is (.slice a nD cD)), (Is (.slice b nL cL))])), .new (.box 34 (Is (.agg #[.slice none 0 0, .slice none 0 0, .slice none 0 0, .bool false, .slice none 0 0])))] [.inl 0, .inl 1] [.inr 1] follows S0 rfl (by kernel_rfl) ?_ ?_
  · refine ⟨⟨trivial, ?_⟩, ?_⟩
    · exact owe_box rfl wA rfl (oS 0 0) rfl (fun ρ w h => box_gso shp_sf2 ρ _ _ w h)
    · exact owe_new rfl wA rfl rfl (fun ρ w => alloc_aim ρ _ w)
  intro B1 a1 W1 (S1 : Sta w 23 [(2, (.box 32 (SF [(Is (.slice a nD cD)), (Is (.slice b nL cL))]))), (4, (.box 34 (Is (.agg #[.slice none 0 0, .slice none 0 0, .slice none 0 0, .bool false, .slice none 0 0]))))] [(1, Is (.slice none 0 0))] _ _ _)
  refine wp_stmt_seq [.val (Is (.slice none 0 0)), .val ((TWO (VN 0 (([] : List Int))) (ZN (1))) w.heap.size), .val ((TWO (VN 0 (([] : List Int))) (ZN (1))) w.heap.size), .val ((VN 0 (([] : List Int))) w.heap.size), .val ((ZN (1)) w.heap.size), .new (.box 25 zI), .val ((VN 0 (([] : List Int))) w.heap.size), .put (.inr 5) (.box 25 ((ZN (1)) w.heap.size))] [.inr 0, .inr 1, .inl 5] [.inl 6, .inr 0] follows S1 rfl (by kernel_rfl) ?_ ?_
  · repeat' refine And.intro ?_ ?_
    · trivial
    · exact mS 0 1
    · exact ch1 wA (qO 0 8 rfl) (fresh_two fresh_vn (fresh_zn _)) (fun w u h => by obtain rfl : u = _ := h.now; exact whol_0 w)
    · exact mO 1 9
    · exact e20 wA (oO 2 7)
    · exact e21 wA (oO 2 7)
    · exact owe_new rfl wA rfl rfl (fun ρ w => alloc_int ρ _ w)
    · exact mO 3 10
    · exact owe_put 5 rfl wA rfl (by kernel_rfl) rfl (oO 4 11) (stores_of strct_int shp_z0 shp_zn) rfl
  intro B2 a2 W2 (S2 : Sta w 23 [(2, (.box 32 (SF [(Is (.slice a nD cD)), (Is (.slice b nL cL))]))), (4, (.box 34 (Is (.agg #[.slice none 0 0, .slice none 0 0, .slice none 0 0, .bool false, .slice none 0 0])))), (6, (.box 25 ((ZN (1)) w.heap.size)))] [(5, ((VN 0 (([] : List Int))) w.heap.size)), (1, Is (.slice none 0 0))] _ _ _)
  refine wp_seq ?_
  refine wp_stmt_seq [.val (Is (.slice none 0 0)), .val (iV (0 : Nat)), kT] [.inr 0, .inr 1, .inr 2] [.inl 2, .inr 0] follows S2 rfl (by kernel_rfl) ?_ ?_
  · refine ⟨⟨⟨trivial, ?_⟩, ?_⟩, ?_⟩
    · exact mS 1 1
    · exact owe_len rfl wA rfl (oO 0 12) is_len Tryz.underlying88 rfl
    · exact b_eql_int_t wA (oO 1 13) (opnd_const _) (h := rfl)
  intro B3 a3 W3 (S3 : Sta w 23 [(2, (.box 32 (SF [(Is (.slice a nD cD)), (Is (.slice b nL cL))]))), (4, (.box 34 (Is (.agg #[.slice none 0 0, .slice none 0 0, .slice none 0 0, .bool false, .slice none 0 0])))), (6, (.box 25 ((ZN (1)) w.heap.size)))] [(14, bT), (5, ((VN 0 (([] : List Int))) w.heap.size))] _ _ _)
  refine wp_cond_true (S3.bool 0 14 rfl) ?_
  refine wp_stmt [.val (Part a3 2 1), .val (Is (.slice b nL cL)), .val (iV (nL : Nat)), .new (.row 25 2 nL (CE 2 (List.replicate nL zI))), .ref 3] [.inr 0, .inr 1, .inr 2, .inl 4] [] follows S3 rfl (by kernel_rfl) ?_ ?_
  · refine ⟨⟨⟨⟨⟨trivial, ?_⟩, ?_⟩, ?_⟩, ?_⟩, ?_⟩
    · exact owe_part rfl wA rfl (k := 0) rfl (by kernel_rfl) rfl (fun ρ w b h => part_gso1 ρ _ _ w b 0 h)
    · exact owe_pload rfl wA rfl (oO 0 15) (k := 0) rfl (by kernel_rfl) rfl (fun ρ w b u h1 h2 h3 => ploadS rfl load1_mat ρ _ _ w b u h1 h2 h3)
    · exact owe_len rfl wA rfl (oO 1 16) is_len Tryz.underlying30 rfl
    · exact owe_makeE rfl wA rfl Tryz.underlying22 infoInt celv_z0 (by decide) (oO 2 17) ⟨by omega, by unfold maxLen; omega⟩ rfl
    · exact owe_ref 3 rfl wA (Or.inr rfl) (by kernel_rfl) rfl rfl
  intro B4 a4 W4 (S4 : Sta w 23 [(2, (.box 32 (SF [(Is (.slice a nD cD)), (Is (.slice b nL cL))]))), (4, (.box 34 (Is (.agg #[.slice none 0 0, .slice none 0 0, .slice none 0 0, .bool false, .slice none 0 0])))), (6, (.box 25 ((ZN (1)) w.heap.size))), (5, (.row 25 2 nL (CE 2 (List.replicate nL zI))))] [] _ _ _)
  refine thenN ?_
  obtain ⟨B5, S5⟩ : ∃ Bq, Sta w 23 [(2, (.box 32 (SF [(Is (.slice a nD cD)), (Is (.slice b nL cL))]))), (4, (.box 34 (Is (.agg #[.slice none 0 0, .slice none 0 0, .slice none 0 0, .bool false, .slice none 0 0])))), (6, (.box 25 ((ZN (1)) w.heap.size)))] [(5, ((VN nL (List.replicate nL 0)) w.heap.size))] Bq a4 W4 := ⟨_, S4.freeze 3 rfl (by simp) (fun v w' xs ho hc => row_lf (by decide) v w' xs ho (ce_zero hc))⟩
  obtain ⟨a5, W5, e1, e2⟩ : ∃ a W, a4 = a ∧ W4 = W := ⟨_, _, rfl, rfl⟩
  rw [e1, e2] at S5 ⊢
  clear e1 e2
  refine wp_stmt_seq [.val (SF [(Is (.slice a nD cD)), (Is (.slice b nL cL))]), .val ((VN nL (List.replicate nL 0)) w.heap.size), .val ((ZN (1)) w.heap.size), .val (AM (Is (.slice a nD cD)) (Is (.slice b nL cL)) ((VN nL (List.replicate nL 0)) w.heap.size) ((ZN (1)) w.heap.size)), .put (.inl 4) (.box 34 (AM (Is (.slice a nD cD)) (Is (.slice b nL cL)) ((VN nL (List.replicate nL 0)) w.heap.size) ((ZN (1)) w.heap.size)))] [.inr 0, .inr 1] [] follows S5 rfl (by kernel_rfl) ?_ ?_
  · refine ⟨⟨⟨⟨⟨trivial, ?_⟩, ?_⟩, ?_⟩, ?_⟩, ?_⟩
    · exact lod 0 wA (loads_of strct_gso shp_sf2)
    · exact mS 0 5
    · exact lod 2 wA (loads_of strct_int shp_zn)
    · exact owe_build_am rfl wA rfl (oO 0 19) (oO 1 20) (oO 2 21) (fun v w h => by obtain ⟨p, c, e⟩ := lf_len v w h; exact ⟨_, _, _, e⟩) shp_zn rfl
    · exact owe_set rfl wA rfl (k := 1) rfl (by kernel_rfl) (oO 3 22) (stores_of strct_aim shp_a0 shp_am) rfl
  intro B6 a6 W6 (S6 : Sta w 23 [(2, (.box 32 (SF [(Is (.slice a nD cD)), (Is (.slice b nL cL))]))), (4, (.box 34 (AM (Is (.slice a nD cD)) (Is (.slice b nL cL)) ((VN nL (List.replicate nL 0)) w.heap.size) ((ZN (1)) w.heap.size))))] [] _ _ _)
  refine wp_ret ?_
  exact end_one S6 rfl (res_cell S6 1 4 rfl strct_aim shp_am)


section
variable {ops : Array Oper} {l : List Kd} {bx : Bxs} {sl : List (Tmp × Pr)} {i : Nat} {o : Oper} {Q : Exit → Act → World → Prop} {a0 : Act} {n0 : Nat} {w0 : World}
theorem owe_aimOf0 {x y : Operand} {ts : Array TypeId} {nD nL K : Nat} {D : List Int} {L : List (List Int)} (ho : ops[i]? = some o) (hw : Wants ops l bx sl i o) (hop : o.op = .call { callee := .value (.func 29), args := #[x, y], argTypes := ts }) (hx : Opnd ops l bx sl i x (SF [Vv nD D K, Mv nL L K])) (hy : Opnd ops l bx sl i y (Is (.slice none 0 0))) (hL : nL ≤ 1048576) (hk : kdAt l i = .val (AM (Vv nD D K) (Mv nL L K) (VN nL (List.replicate nL 0) w0.heap.size) (ZN 1 w0.heap.size))) : Owed Tryz.prog ops Q l bx sl a0 n0 w0 i :=
  owe_callW ho hw hop hk (fun args w => by go_simp) fun vs B a w c => by
    rw [show (#[x, y] : Array Operand).map a.eval = #[a.eval x, a.eval y] from by simp]
    have e2 : a.eval y = .slice none 0 0 := (hy a0 n0 w0 vs B a w c).now
    have h1 := hx a0 n0 w0 vs B a w c
    obtain ⟨cs, e1, c1, c2, c3⟩ := id h1.now
    match cs, c1, e1, c2, c3 with
    | ⟨[x0, x1]⟩, _, e1, c2, c3 =>
      obtain ⟨u0, q0, hu0⟩ := c3 0 _ rfl
      obtain ⟨u1, q1, hu1⟩ := c3 1 _ rfl
      simp at q0 q1
      subst q0 q1
      obtain ⟨p0, cc0, r0, _⟩ := hu0
      obtain ⟨p1, cc1, r1, _⟩ := hu1
      subst r0 r1
      rw [e1, e2]
      refine (aimof_0 w p0 nD cc0 p1 nL cc1 hL).mono ?_
      rintro e w' ⟨v, rfl, hb, hv⟩
      refine ⟨v, rfl, hb, fun W ev => ?_⟩
      have hfr := gives_has fresh_ami c ⟨v, rfl, hb, hv⟩
      obtain ⟨r, er, _, hr⟩ := hfr
      cases er
      obtain ⟨y0, y1, y2, y3, y4, ee, ho', g0, g1, g2, g3⟩ := hr W ev
      have hb1 := h1 W ((Ev.of_below hb).back (fun _ _ h => h) ev)
      rw [e1] at hb1
      obtain ⟨ds, d0, _, _, d3⟩ := hb1
      simp only [Value.agg.injEq] at d0
      subst d0
      obtain ⟨u0, q0, hu0⟩ := d3 0 _ rfl
      obtain ⟨u1, q1, hu1⟩ := d3 1 _ rfl
      simp at q0 q1
      subst q0 q1
      refine ⟨y0, y1, y2, y3, y4, ee, ho', ?_, ?_, g2, g3⟩
      · rw [show y0 = _ from g0]; exact hu0
      · rw [show y1 = _ from g1]; exact hu1
end

set_option maxHeartbeats 2000000 in
theorem refu_0 (w : World) (u : Value) (nD nL K : Nat) (D : List Int) (L : List (List Int)) (h : Hs w (SF [Vv nD D K, Mv nL L K]) u) (hD : nD ≤ 1048576) (hL : nL ≤ 1048576) (hK : K ≤ 1048576) (lD : D.length = nD) (lL : L.length = nL) (v : Value) (m Ks : Nat) (x : List Int) (hv : Hs w (Vv m x Ks) v) (hKs : Ks ≤ 1048576) (ls : x.length = m) (g : Good D L) (hm : m ≤ nL) :
    Calls Tryz.prog 28 #[u, .slice none 0 0, v, .slice none 0 0] w (Gives (IS (.int .i64 0)) w) := by
  have hs0 := g.some
  refine calls_sta (sl := [(0, (SF [(Vv nD D K), (Mv nL L K)])), (1, (Is (.slice none 0 0))), (2, (Vv m x Ks)), (3, (Is (.slice none 0 0)))]) Tryz.func28 rfl Tryz.ntmps28 (by simp) (args_cons rfl (h) (args_cons rfl (is_has _) (args_cons rfl (hv) (args_cons rfl (is_has _) args_nil)))) ?_
  intro a0 S0
  refine wp_stmt_seq [.new (.box 32 (SF [(Vv nD D K), (Mv nL L K)])), .val (iV 0)] [.inl 0] [.inr 1, .inr 2, .inr 3] follows S0 rfl (by kernel_rfl) ?_ ?_
  · refine ⟨⟨trivial, ?_⟩, ?_⟩
    · exact owe_box rfl wA rfl (oS 0 0) rfl (fun ρ w h => box_gso shp_sf2 ρ _ _ w h)
    · exact mC
  intro B1 a1 W1 (S1 : Sta w 49 [(4, (.box 32 (SF [(Vv nD D K), (Mv nL L K)])))] [(1, Is (.slice none 0 0)), (2, Vv m x Ks), (3, Is (.slice none 0 0))] _ _ _)
  refine wp_stmt_seq [.val (SF [(Vv nD D K), (Mv nL L K)]), .val ((TWO (RN 1 1) (IS (.int .i64 0))) w.heap.size), .val ((TWO (RN 1 1) (IS (.int .i64 0))) w.heap.size), .val ((RN 1 1) w.heap.size), .val (iV 0), .new (.box 27 zR), .put (.inr 5) (.box 27 ((RN 1 1) w.heap.size)), .val (iV 0)] [.inr 0, .inl 5] [.inl 7, .inr 0, .inr 1, .inr 2] follows S1 rfl (by kernel_rfl) ?_ ?_
  · repeat' refine And.intro ?_ ?_
    · trivial
    · exact lod 0 wA (loads_of strct_gso shp_sf2)
    · exact ch3 wA (qO 0 13 rfl) (opnd_const _) (opnd_const _) (fresh_two (fresh_rn _ _) (fresh_is _)) (fun w u a b h ha hb => by obtain rfl : a = _ := ha.now; obtain rfl : b = _ := hb.now; exact mu_e w u nD nL K D L h hD hL hK lD lL 0 g (by omega))
    · exact mO 1 14
    · exact e20 wA (oO 2 12)
    · exact e21 wA (oO 2 12)
    · exact owe_new rfl wA rfl rfl (fun ρ w => alloc_rat ρ _ w)
    · exact owe_put 5 rfl wA rfl (by kernel_rfl) rfl (oO 3 15) (stores_of strct_rat shp_r0 (shp_pr shp_zn shp_zn)) rfl
    · exact mO 4 16
  intro B2 a2 W2 (S2 : Sta w 49 [(4, (.box 32 (SF [(Vv nD D K), (Mv nL L K)]))), (9, (.box 27 ((RN 1 1) w.heap.size)))] [(10, iV 0), (1, Is (.slice none 0 0)), (2, Vv m x Ks), (3, Is (.slice none 0 0))] _ _ _)
  refine wp_stmt_seq [.val (Part a2 4 1), .val (Mv nL L K), .val (iV (nL : Nat)), .val (iV (nL : Nat))] [.inr 0] [.inl 3, .inr 0, .inr 1, .inr 2, .inr 3] follows S2 rfl (by kernel_rfl) ?_ ?_
  · refine ⟨⟨⟨⟨trivial, ?_⟩, ?_⟩, ?_⟩, ?_⟩
    · exact owe_part rfl wA rfl (k := 0) rfl (by kernel_rfl) rfl (fun ρ w b h => part_gso1 ρ _ _ w b 0 h)
    · exact owe_pload rfl wA rfl (oO 0 17) (k := 0) rfl (by kernel_rfl) rfl (fun ρ w b u h1 h2 h3 => ploadS rfl load1_mat ρ _ _ w b u h1 h2 h3)
    · exact owe_len rfl wA rfl (oO 1 18) ar_len Tryz.underlying30 rfl
    · exact mO 2 19
  intro B3 a3 W3 (S3 : Sta w 49 [(4, (.box 32 (SF [(Vv nD D K), (Mv nL L K)])))] [(11, iV (nL : Nat)), (10, iV 0), (1, Is (.slice none 0 0)), (2, Vv m x Ks), (3, Is (.slice none 0 0))] _ _ _)
  refine wp_seq ?_
  refine wp_block ?_
  refine wp_stmt_seq [.val (iV 0), kF, kF] [.inr 0] [.inl 2, .inr 0, .inr 1, .inr 2, .inr 3, .inr 4] follows S3 rfl (by kernel_rfl) ?_ ?_
  · refine ⟨⟨⟨trivial, ?_⟩, ?_⟩, ?_⟩
    · exact mS 1 10
    · exact b_neq_errno_f wA (oO 0 21) (opnd_const _) (h := rfl)
    · exact mO 1 22
  intro B4 a4 W4 (S4 : Sta w 49 [(4, (.box 32 (SF [(Vv nD D K), (Mv nL L K)])))] [(20, bF), (11, iV (nL : Nat)), (10, iV 0), (1, Is (.slice none 0 0)), (2, Vv m x Ks), (3, Is (.slice none 0 0))] _ _ _)
  refine wp_cond_false (S4.bool 0 20 rfl) ?_
  refine wp_stmt_seq [.val (Is (.slice none 0 0)), .val (iV (0 : Nat)), kF, kF, .off, .off, .off, .off, kF, kF, .val (Vv m x Ks), .val (iV (m : Nat)), .val (iV (nL : Nat)), kF, kF, kF] [.inr 0] [.inl 15, .inr 3, .inr 5] follows S4 rfl (by kernel_rfl) ?_ ?_
  · repeat' refine And.intro ?_ ?_
    · trivial
    · exact mS 3 1
    · exact owe_len rfl wA rfl (oO 0 25) is_len Tryz.underlying88 rfl
    · exact b_neq_int_f wA (oO 1 26) (opnd_const _)
    · exact mO 2 27
    · exact oF 3 28
    · exact oF 3 28
    · exact oF 3 28
    · exact oF 3 28
    · exact pF wA (oO 3 28) (opnd_const _)
    · exact mO 8 33
    · exact mW (wI 9 34) (oS 4 2)
    · exact owe_len rfl (wI 9 34) rfl (oO 10 35) ar_len Tryz.underlying22 rfl
    · exact mW (wI 9 34) (oS 1 11)
    · exact b_gtr_int_f (wI 9 34) (oO 11 36) (oO 12 37)
    · exact pF wA (oO 9 34) (oO 13 38)
    · exact mO 14 39
  intro B5 a5 W5 (S5 : Sta w 49 [(4, (.box 32 (SF [(Vv nD D K), (Mv nL L K)])))] [(24, bF), (1, Is (.slice none 0 0)), (3, Is (.slice none 0 0))] _ _ _)
  refine wp_cond_false (S5.bool 0 24 rfl) ?_
  refine wp_stmt_seq [.val (Is (.slice none 0 0)), kT, kF, kF, .val (Is (.slice none 0 0)), kT, kF, kF, kF] [.inr 0] [.inl 8] follows S5 rfl (by kernel_rfl) ?_ ?_
  · repeat' refine And.intro ?_ ?_
    · trivial
    · exact mS 1 1
    · exact ch1 wA (qO 0 41 rfl) (fresh_is _) (fun w u h => by obtain rfl : u = _ := h.now; exact mayb_0 w)
    · exact b_not wA (oO 1 42)
    · exact mO 2 43
    · exact mW (wI 3 44) (oS 2 3)
    · exact ch1 (wI 3 44) (qO 4 45 rfl) (fresh_is _) (fun w u h => by obtain rfl : u = _ := h.now; exact mayb_0 w)
    · exact b_not (wI 3 44) (oO 5 46)
    · exact pF wA (oO 3 44) (oO 6 47)
    · exact mO 7 48
  intro B6 a6 W6 (S6 : Sta w 49 [(4, (.box 32 (SF [(Vv nD D K), (Mv nL L K)])))] [(40, bF)] _ _ _)
  refine wp_cond_false (S6.bool 0 40 rfl) ?_
  refine wp_skip ?_
  refine inBlkN ?_
  refine thenN ?_
  refine wp_stmt_seq [.val (iV 0)] [.inr 0] [.inl 0] follows S6 rfl (by kernel_rfl) ?_ ?_
  · refine ⟨trivial, ?_⟩
    · exact mC
  intro B7 a7 W7 (S7 : Sta w 49 [(4, (.box 32 (SF [(Vv nD D K), (Mv nL L K)])))] [(8, iV 0)] _ _ _)
  refine wp_ret ?_
  exact end_one S7 rfl (res_tmp S7 0 8 rfl)

set_option maxHeartbeats 2000000 in
theorem fnorm_0 (w : World) (u : Value) (nD nL K : Nat) (D : List Int) (L : List (List Int)) (h : Hs w (SF [Vv nD D K, Mv nL L K]) u) (hD : nD ≤ 1048576) (hL : nL ≤ 1048576) (hK : K ≤ 1048576) (lD : D.length = nD) (lL : L.length = nL) (v : Value) (m Ks : Nat) (x : List Int) (hv : Hs w (Vv m x Ks) v) (hKs : Ks ≤ 1048576) (ls : x.length = m) (g : Good D L) (hm : m ≤ nL) (K2 qn : Nat) (hsh : Dl (shL x 1 (List.replicate nL 0) nL m) K2) (hK2 : K2 ≤ 16777216) (hN : ∀ k, k ≤ m → (digs (fS D (shL x 1 (List.replicate nL 0) nL m) L nL k).1.natAbs).length ≤ 33554432) (hR : ∀ k, k ≤ m → (digs (fS D (shL x 1 (List.replicate nL 0) nL m) L nL k).2.natAbs).length ≤ 33554432) (hq : ((fS D (shL x 1 (List.replicate nL 0) nL m) L nL m).2 * fD D nL m) * (1 * 1) = (qn : Int)) (hq0 : qn ≠ 0) (hqd : (digs qn).length ≤ 67108864) :
    Calls Tryz.prog 12 #[u, .slice none 0 0, v] w (Gives (TWO (QQ ((fS D (shL x 1 (List.replicate nL 0) nL m) L nL m).1) qn) (IS (.int .i64 0))) w) := by
  have hK1 : (digs (1 : Int).natAbs).length ≤ K := by
    obtain ⟨cs, _, _, _, hp⟩ := h.now
    obtain ⟨v, _, hv⟩ := hp 0 _ rfl
    have q := dl_getD (vv_dl hv) 0
    rw [g.one] at q
    exact q
  have hz3 : (digs (((fS D (shL x 1 (List.replicate nL 0) nL m) L nL m).2 * fD D nL m) * (1 * 1)).natAbs).length ≤ 67108864 := by rw [hq]; exact hqd
  refine calls_sta (sl := [(0, (SF [(Vv nD D K), (Mv nL L K)])), (1, (Is (.slice none 0 0))), (2, (Vv m x Ks))]) Tryz.func12 rfl Tryz.ntmps12 (by simp) (args_cons rfl (h) (args_cons rfl (is_has _) (args_cons rfl (hv) args_nil))) ?_
  intro a0 S0
  refine wp_stmt_seq [.new (.box 32 (SF [(Vv nD D K), (Mv nL L K)])), .new (.box 27 zR), .val (iV 0)] [.inl 0, .inl 1] [.inr 1, .inr 2] follows S0 rfl (by kernel_rfl) ?_ ?_
  · refine ⟨⟨⟨trivial, ?_⟩, ?_⟩, ?_⟩
    · exact owe_box rfl wA rfl (oS 0 0) rfl (fun ρ w h => box_gso shp_sf2 ρ _ _ w h)
    · exact owe_new rfl wA rfl rfl (fun ρ w => alloc_rat ρ _ w)
    · exact mC
  intro B1 a1 W1 (S1 : Sta w 34 [(3, (.box 32 (SF [(Vv nD D K), (Mv nL L K)]))), (6, (.box 27 zR))] [(1, Is (.slice none 0 0)), (2, Vv m x Ks)] _ _ _)
  refine wp_seq ?_
  refine wp_stmt_seq [.val (SF [(Vv nD D K), (Mv nL L K)]), .val (Is (.slice none 0 0)), .val (Vv m x Ks), .val (iV 0), .val (iV 0)] [.inr 0, .inr 1] [.inl 4, .inr 0, .inr 1] follows S1 rfl (by kernel_rfl) ?_ ?_
  · refine ⟨⟨⟨⟨⟨trivial, ?_⟩, ?_⟩, ?_⟩, ?_⟩, ?_⟩
    · exact lod 0 wA (loads_of strct_gso shp_sf2)
    · exact mS 0 1
    · exact mS 1 2
    · exact owe_callh4 rfl wA rfl (oO 0 11) (oO 1 12) (oO 2 13) (opnd_const _) (fresh_is _) rfl (fun args w => by go_simp) (fun w u0 u1 u2 u3 h0 h1 h2 h3 => by obtain rfl : u1 = _ := h1.now; obtain rfl : u3 = _ := h3.now; exact refu_0 w u0 nD nL K D L h0 hD hL hK lD lL u2 m Ks x h2 hKs ls g hm)
    · exact mO 3 14
  intro B2 a2 W2 (S2 : Sta w 34 [(3, (.box 32 (SF [(Vv nD D K), (Mv nL L K)]))), (6, (.box 27 zR))] [(8, iV 0), (1, Is (.slice none 0 0)), (2, Vv m x Ks)] _ _ _)
  refine wp_stmt_seq [.val (iV 0), kF] [.inr 0, .inr 1] [.inl 1, .inr 0, .inr 1, .inr 2] follows S2 rfl (by kernel_rfl) ?_ ?_
  · refine ⟨⟨trivial, ?_⟩, ?_⟩
    · exact mS 0 8
    · exact b_neq_errno_f wA (oO 0 15) (opnd_const _) (h := rfl)
  intro B3 a3 W3 (S3 : Sta w 34 [(3, (.box 32 (SF [(Vv nD D K), (Mv nL L K)]))), (6, (.box 27 zR))] [(16, bF), (8, iV 0), (1, Is (.slice none 0 0)), (2, Vv m x Ks)] _ _ _)
  refine wp_cond_false (S3.bool 0 16 rfl) ?_
  refine wp_skip ?_
  refine thenN ?_
  refine wp_stmt_seq [.val (SF [(Vv nD D K), (Mv nL L K)]), .val (Is (.slice none 0 0)), .val (AM (Vv nD D K) (Mv nL L K) ((VN nL (List.replicate nL 0)) w.heap.size) ((ZN (1)) w.heap.size)), .new (.box 34 (Is (.agg #[.slice none 0 0, .slice none 0 0, .slice none 0 0, .bool false, .slice none 0 0]))), .put (.inr 3) (.box 34 (AM (Vv nD D K) (Mv nL L K) ((VN nL (List.replicate nL 0)) w.heap.size) ((ZN (1)) w.heap.size)))] [.inr 0, .inr 1, .inl 3] [.inr 3] follows S3 rfl (by kernel_rfl) ?_ ?_
  · refine ⟨⟨⟨⟨⟨trivial, ?_⟩, ?_⟩, ?_⟩, ?_⟩, ?_⟩
    · exact lod 0 wA (loads_of strct_gso shp_sf2)
    · exact mS 2 1
    · exact owe_aimOf0 rfl wA rfl (oO 0 19) (oO 1 20) hL rfl
    · exact owe_new rfl wA rfl rfl (fun ρ w => alloc_aim ρ _ w)
    · exact owe_put 3 rfl wA rfl (by kernel_rfl) rfl (oO 2 21) (stores_of strct_aim shp_a0 shp_am) rfl
  intro B4 a4 W4 (S4 : Sta w 34 [(3, (.box 32 (SF [(Vv nD D K), (Mv nL L K)]))), (6, (.box 27 zR)), (9, (.box 34 (AM (Vv nD D K) (Mv nL L K) ((VN nL (List.replicate nL 0)) w.heap.size) ((ZN (1)) w.heap.size))))] [(2, Vv m x Ks)] _ _ _)
  refine wp_stmt_seq [.val (AM (Vv nD D K) (Mv nL L K) ((VN nL (List.replicate nL 0)) w.heap.size) ((ZN (1)) w.heap.size)), .val (AM (Vv nD D K) (Mv nL L K) ((VN nL (List.replicate nL 0)) w.heap.size) ((ZN (1)) w.heap.size)), .val (Vv m x Ks), .val ((VN m (shL x 1 (List.replicate nL 0) nL m)) w.heap.size), .val ((PRF (ZN ((fS D (shL x 1 (List.replicate nL 0) nL m) L nL m).1)) (ZN (((fS D (shL x 1 (List.replicate nL 0) nL m) L nL m).2 * fD D nL m) * (1 * 1)))) w.heap.size), .new (.box 27 zR), .put (.inr 5) (.box 27 ((PRF (ZN ((fS D (shL x 1 (List.replicate nL 0) nL m) L nL m).1)) (ZN (((fS D (shL x 1 (List.replicate nL 0) nL m) L nL m).2 * fD D nL m) * (1 * 1)))) w.heap.size))] [.inr 0, .inr 1, .inr 2, .inl 5] [] follows S4 rfl (by kernel_rfl) ?_ ?_
  · repeat' refine And.intro ?_ ?_
    · trivial
    · exact lod 2 wA (loads_of strct_aim shp_am)
    · exact lod 2 wA (loads_of strct_aim shp_am)
    · exact mS 0 2
    · exact owe_callh2 rfl wA rfl ((oO 1 23).imp (am_imp (fun _ _ h => h) (fun _ _ h => h) (vn_vv (dl_zeros _ _)) (zn_zv hK1))) (oO 2 24) fresh_vn rfl (fun args w => by go_simp) (fun w u0 u1 h0 h1 => ashf_w w u0 nD nL nL K D L (List.replicate nL 0) 1 h0 hD hL hL hK lD lL (List.length_replicate) u1 m Ks x h1 (by omega) ls hm rfl)
    · exact owe_callh2 rfl wA rfl ((oO 0 22).imp (am_imp (fun _ _ h => h) (fun _ _ h => h) (vn_vv (dl_zeros _ _)) (zn_zv hK1))) ((oO 3 25).imp (vn_vv hsh)) (fresh_prf (fresh_zn _) (fresh_zn _)) rfl (fun args w => by go_simp) (fun w u0 u1 h0 h1 => anorm_w w u0 nD nL nL K D L (List.replicate nL 0) 1 h0 hD hL hL hK lD lL (List.length_replicate) u1 m K2 (shL x 1 (List.replicate nL 0) nL m) h1 hK2 (shL_len _ _ _ _ _) g hm hN hR)
    · exact owe_new rfl wA rfl rfl (fun ρ w => alloc_rat ρ _ w)
    · exact owe_put 5 rfl wA rfl (by kernel_rfl) rfl (oO 4 26) (stores_of strct_rat shp_r0 (shp_pr shp_zn shp_zn)) rfl
  intro B5 a5 W5 (S5 : Sta w 34 [(3, (.box 32 (SF [(Vv nD D K), (Mv nL L K)]))), (6, (.box 27 zR)), (9, (.box 34 (AM (Vv nD D K) (Mv nL L K) ((VN nL (List.replicate nL 0)) w.heap.size) ((ZN (1)) w.heap.size)))), (10, (.box 27 ((PRF (ZN ((fS D (shL x 1 (List.replicate nL 0) nL m) L nL m).1)) (ZN (((fS D (shL x 1 (List.replicate nL 0) nL m) L nL m).2 * fD D nL m) * (1 * 1)))) w.heap.size)))] [] _ _ _)
  refine wp_stmt_seq [.val (Part a5 10 0), .val ((ZN ((fS D (shL x 1 (List.replicate nL 0) nL m) L nL m).1)) w.heap.size), .val (Part a5 10 2), .val ((ZN (((fS D (shL x 1 (List.replicate nL 0) nL m) L nL m).2 * fD D nL m) * (1 * 1))) w.heap.size), .val ((TWO (QQ ((fS D (shL x 1 (List.replicate nL 0) nL m) L nL m).1) qn) (IS (.int .i64 0))) w.heap.size), .val ((QQ ((fS D (shL x 1 (List.replicate nL 0) nL m) L nL m).1) qn) w.heap.size), .val (iV 0), .put (.inl 6) (.box 27 ((QQ ((fS D (shL x 1 (List.replicate nL 0) nL m) L nL m).1) qn) w.heap.size)), .val (iV 0)] [.inr 0, .inr 1, .inr 2] [.inl 8] follows S5 rfl (by kernel_rfl) ?_ ?_
  · repeat' refine And.intro ?_ ?_
    · trivial
    · exact owe_part rfl wA rfl (k := 3) rfl (by kernel_rfl) rfl (fun ρ w b h => part_rat0 ρ _ _ w b 0 h)
    · exact owe_pload rfl wA rfl (oO 0 27) (k := 3) rfl (by kernel_rfl) rfl (fun ρ w b u h1 h2 h3 => pload_num ρ _ _ w b u h1 h2 h3)
    · exact owe_part rfl wA rfl (k := 3) rfl (by kernel_rfl) rfl (fun ρ w b h => part_rat1 ρ _ _ w b 0 h)
    · exact owe_pload rfl wA rfl (oO 2 29) (k := 3) rfl (by kernel_rfl) rfl (fun ρ w b u h1 h2 h3 => pload_den ρ _ _ w b u h1 h2 h3)
    · exact cc2 wA (qO 1 28 rfl) (qO 3 30 rfl) (fresh_two (fresh_qq _ _) (fresh_is _)) (fun w u v h1 h2 => g_ratmake (k := 33554432) (k' := 67108864) hq0 (by omega) (by omega) w u v ((zn_zv (hN m (Nat.le_refl _))) _ _ h1) (by rw [← hq]; exact (zn_zv hz3) _ _ h2))
    · exact e20 wA (oO 4 31)
    · exact e21 wA (oO 4 31)
    · exact owe_set rfl wA rfl (k := 1) rfl (by kernel_rfl) (oO 5 32) (stores_of strct_rat shp_r0 shp_qq) rfl
    · exact mO 6 33
  intro B6 a6 W6 (S6 : Sta w 34 [(3, (.box 32 (SF [(Vv nD D K), (Mv nL L K)]))), (6, (.box 27 ((QQ ((fS D (shL x 1 (List.replicate nL 0) nL m) L nL m).1) qn) w.heap.size))), (9, (.box 34 (AM (Vv nD D K) (Mv nL L K) ((VN nL (List.replicate nL 0)) w.heap.size) ((ZN (1)) w.heap.size))))] [(7, iV 0)] _ _ _)
  refine wp_ret ?_
  exact end_two S6 rfl (res_cell S6 1 6 rfl strct_rat shp_qq) (res_tmp S6 0 7 rfl)

end Go.Proofs.YtdlgcklilfnhnaaGreatDoor
