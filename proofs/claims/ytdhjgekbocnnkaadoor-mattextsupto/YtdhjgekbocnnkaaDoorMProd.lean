/-
  Product, Turn: mat's and the document's.
-/
import Derived.Test.YtdhjgekbocnnkaaDoorMWeigh
import Derived.Test.YtdhjgekbocnnkaaDoorSetN
namespace Go.Proofs.YtdhjgekbocnnkaaDoor
open Go Go.RowKit Nt
set_option linter.unusedSimpArgs false
set_option linter.unusedVariables false
set_option maxRecDepth 20000


section
variable {ops : Array Oper} {l : List Kd} {bx : Bxs} {sl : List (Tmp × Pr)} {i : Nat} {o : Oper} {Q : Exit → Act → World → Prop} {a0 : Act} {n : Nat} {w0 : World}
/-- Not wanted, and what hangs on it neither. -/
theorem owe_offv (j d : Nat) {b b' : Bool} (ho : ops[i]? = some o) (hk : kdAt l i = .val (Is undef)) (hg : o.guard = some (j, b)) (h : ((depsOf ops i).contains j && (dstOf ops j == some d)) = true) (hkj : kdAt l j = .val (Is (.bool b'))) (hb : b' ≠ b) : Owed Tryd.prog ops Q l bx sl a0 n w0 i := fun vs B a w c o' ho' => by
  obtain rfl : o = o' := Option.some.inj (ho.symm.trans ho')
  have hv := (opnd_op (bx := bx) (sl := sl) j d h hkj a0 n w0 vs B a w c).now
  simp only [Bool.and_eq_true, List.contains_iff_mem, beq_iff_eq] at h
  simp only [wpOp, ho]
  rw [if_neg (by simp [Region.wanted, hg, yielded_of h.2 hv]; exact hb)]
  exact ⟨undef, rfl, by rw [hk]; exact ⟨Below.refl _ _, fun _ _ => rfl⟩⟩
theorem owe_offu (j d : Nat) {b : Bool} (ho : ops[i]? = some o) (hk : kdAt l i = .off) (hg : o.guard = some (j, b)) (h : ((depsOf ops i).contains j && (dstOf ops j == some d)) = true) (hkj : kdAt l j = .val (Is undef)) : Owed Tryd.prog ops Q l bx sl a0 n w0 i := fun vs B a w c o' ho' => by
  obtain rfl : o = o' := Option.some.inj (ho.symm.trans ho')
  have hv : a.eval (.tmp d) = undef := (opnd_op (bx := bx) (sl := sl) j d h hkj a0 n w0 vs B a w c).now
  simp only [Bool.and_eq_true, List.contains_iff_mem, beq_iff_eq] at h
  have hd' : ((ops[j]?).bind (·.dst)) = some d := h.2
  have hy : yielded ops a.tmps j = none := by
    simp only [Act.eval] at hv
    cases hx : a.tmps[d]? with
    | none => simp [yielded, hd', hx]
    | some v => simp [hx] at hv; subst hv; simp [yielded, hd', hx, undef]
  simp only [wpOp, ho]
  rw [if_neg (by simp [Region.wanted, hg, hy])]
  exact ⟨undef, rfl, by rw [hk]; rfl⟩
end
theorem owe_mkfn22 {ops : Array Oper} {l : List Kd} {bx : Bxs} {sl : List (Tmp × Pr)} {i : Nat} {o : Oper} {Q : Exit → Act → World → Prop} {a0 : Act} {n0 : Nat} {w0 : World} {f : FuncId} {x y : Operand} {χ χ' : Pr} {φs φs' : List Pr} {ψs : List (Nat → Pr)} (ho : ops[i]? = some o) (hw : Wants ops l bx sl i o) (hop : o.op = .makeFunc (.func f) #[] #[x, y]) (hx : Opnd ops l bx sl i x χ) (hy : Opnd ops l bx sl i y χ') (hk : kdAt l i = .val (Fn2 φs φs' ψs))
    (hcf : ∀ args w, (callFunc f args).run Tryd.prog w = .ok (.enter f args) w) (C : ∀ (i : Nat) φ φ' ψ, φs[i]? = some φ → φs'[i]? = some φ' → ψs[i]? = some ψ → ∀ w u v c c', Hs w φ u → Hs w φ' v → Hs w χ c → Hs w χ' c' → Calls Tryd.prog f #[u, v, c, c'] w (Gives ψ w)) : Owed Tryd.prog ops Q l bx sl a0 n0 w0 i :=
  owe_val ho hw hk fun vs B a w c => by
    have h := hx a0 n0 w0 vs B a w c
    have h' := hy a0 n0 w0 vs B a w c
    refine ⟨.func (.func f) #[] #[a.eval x, a.eval y], ?_, fun w' e => ⟨f, #[a.eval x, a.eval y], rfl, hcf, fun i φ φ' ψ h1 h2 h3 u v hu hv => ?_⟩⟩
    · unfold execOp
      rw [hop]
      generalize a.eval = ρ
      go_simp
    · simpa using C i φ φ' ψ h1 h2 h3 w' u v _ _ hu hv (h.go e (fun _ _ h => h)).hs (h'.go e (fun _ _ h => h)).hs
theorem fn_grid {n x : Nat} {F : Nat → Nat → Int} {i : Nat} {φ φ' : Pr} {ψ : Nat → Pr} (h1 : ((List.range (n * x)).map (fun p => Is (.int .i64 ((p / x : Nat) : Int))))[i]? = some φ) (h2 : ((List.range (n * x)).map (fun p => Is (.int .i64 ((p % x : Nat) : Int))))[i]? = some φ') (h3 : ((flat n x F).map ZN)[i]? = some ψ) : ∃ a b : Nat, a < n ∧ b < x ∧ φ = Is (.int .i64 (a : Nat)) ∧ φ' = Is (.int .i64 (b : Nat)) ∧ ψ = ZN (F a b) := by
  obtain ⟨p, hp, rfl⟩ := map_get h1
  obtain ⟨p', hp', rfl⟩ := map_get h2
  obtain ⟨z, hz, rfl⟩ := map_get h3
  obtain ⟨p'', hp'', rfl⟩ := map_get hz
  rw [hp] at hp' hp''
  cases hp'
  cases hp''
  have hi := (List.getElem?_eq_some_iff.1 hp).1
  rw [List.getElem?_range (by simpa using hi)] at hp
  cases hp
  have hlt : i < n * x := by simpa using hi
  have hx : 0 < x := by
    rcases Nat.eq_zero_or_pos x with e | e
    · rw [e, Nat.mul_zero] at hlt
      omega
    · exact e
  exact ⟨i / x, i % x, Nat.div_lt_of_lt_mul (by rw [Nat.mul_comm]; exact hlt), Nat.mod_lt _ hx, rfl, rfl, rfl⟩
def dz (a b : List Int) : Int := sumZ (List.zipWith (· * ·) a b)
theorem dz_comm (a b : List Int) : dz a b = dz b a := by
  unfold dz
  congr 1
  rw [List.zipWith_comm]
  congr 1
  funext x y
  exact Int.mul_comm _ _
abbrev prodF (A B : List (List Int)) : Nat → Nat → Int := fun i j => wei (A.getD i []) B j
abbrev turnF (A : List (List Int)) : Nat → Nat → Int := fun i j => (A.getD j []).getD i 0
abbrev gramF (A : List (List Int)) : Nat → Nat → Int := fun i j => dz (A.getD i []) (A.getD j [])
def turnZ (A : List (List Int)) (x : Nat) : List (List Int) := (List.range x).map (fun k => A.map (fun r => r.getD k 0))
def gramZ (A : List (List Int)) : List (List Int) := A.map (fun r => A.map (fun s => dz r s))
theorem range_map {α β : Type} [Inhabited α] {A : List α} {n : Nat} {d : α} {f : α → β} (h : A.length = n) : (List.range n).map (fun i => f (A.getD i d)) = A.map f := by
  subst h
  apply List.ext_getElem (by simp)
  intro i h1 h2
  have hi : i < A.length := by simpa using h2
  simp [List.getD_eq_getElem?_getD, List.getElem?_eq_getElem hi]
theorem grid_prod {A B : List (List Int)} {n x : Nat} (h : A.length = n) : grid n x (prodF A B) = A.map (fun r => combZ r B x) := range_map (f := fun r => combZ r B x) h
theorem grid_turn {A : List (List Int)} {n x : Nat} (h : A.length = n) : grid x n (turnF A) = turnZ A x := by
  unfold turnZ
  apply List.map_congr_left
  intro k hk
  exact range_map (f := fun r : List Int => r.getD k 0) h
theorem grid_gram {A : List (List Int)} {n : Nat} (h : A.length = n) : grid n n (gramF A) = gramZ A := by
  have : ∀ r : List Int, (List.range n).map (fun j => dz r (A.getD j [])) = A.map (fun s => dz r s) := fun r => range_map (f := fun s => dz r s) h
  unfold gramZ
  rw [← range_map (d := []) (f := fun r => A.map (fun s => dz r s)) h]
  apply List.map_congr_left
  intro i hi
  exact this _
/-! A square that is filled in no order of its places. -/
def gl (lo n : Nat) (F : Nat → Nat → Int) (D : Nat → Nat → Bool) : List Pr := (List.range (n * n)).map (fun p => if D (p / n) (p % n) then ZN (F (p / n) (p % n)) lo else Is (.agg #[.bool false, .slice none 0 0]))
theorem gl_len {lo n : Nat} {F : Nat → Nat → Int} {D : Nat → Nat → Bool} : (gl lo n F D).length = n * n := by simp [gl]
theorem gl_get {lo n : Nat} {F : Nat → Nat → Int} {D : Nat → Nat → Bool} {i j : Nat} (hi : i < n) (hj : j < n) (h : D i j = true) : (gl lo n F D)[i * n + j]? = some (ZN (F i j) lo) := by
  obtain ⟨e1, e2⟩ := div_at (i := i) hj
  rw [gl, List.getElem?_map, List.getElem?_range (at_lt hi hj)]
  simp only [Option.map_some, e1, e2, h, if_true]
theorem gl_ext {lo n : Nat} {F : Nat → Nat → Int} {D D' : Nat → Nat → Bool} (h : ∀ a b, a < n → b < n → D a b = D' a b) : gl lo n F D = gl lo n F D' := by
  unfold gl
  apply List.map_congr_left
  intro p hp
  have hlt : p < n * n := by simpa using hp
  have hn : 0 < n := by
    rcases Nat.eq_zero_or_pos n with e | e
    · rw [e] at hlt
      omega
    · exact e
  rw [h _ _ (Nat.div_lt_of_lt_mul hlt) (Nat.mod_lt _ hn)]
theorem gl_set {lo n : Nat} {F : Nat → Nat → Int} {D D' : Nat → Nat → Bool} {i j : Nat} {x : Int} (hi : i < n) (hj : j < n) (hD : ∀ a b, a < n → b < n → ¬ (a = i ∧ b = j) → D a b = D' a b) (h1 : D' i j = true) (hx : F i j = x) : (gl lo n F D).set (i * n + j) (ZN x lo) = gl lo n F D' := by
  obtain ⟨e1, e2⟩ := div_at (i := i) hj
  apply List.ext_getElem? 
  intro p
  rw [List.getElem?_set]
  by_cases hp : i * n + j = p
  · subst hp
    rw [if_pos rfl, if_pos (by rw [gl_len]; exact at_lt hi hj), gl_get hi hj h1, hx]
  · rw [if_neg hp]
    by_cases hlt : p < n * n
    · unfold gl
      rw [List.getElem?_map, List.getElem?_map, List.getElem?_range hlt]
      simp only [Option.map_some]
      have hn : 0 < n := by omega
      rw [hD _ _ (Nat.div_lt_of_lt_mul hlt) (Nat.mod_lt _ hn) (fun hh => hp (by rw [← hh.1, ← hh.2, Nat.mul_comm]; exact Nat.div_add_mod p n))]
    · rw [List.getElem?_eq_none (by rw [gl_len]; omega), List.getElem?_eq_none (by rw [gl_len]; omega)]
theorem gl_none {lo n : Nat} {F : Nat → Nat → Int} {D : Nat → Nat → Bool} (h : ∀ a b, D a b = false) : List.replicate (n * n) (Is (.agg #[.bool false, .slice none 0 0])) = gl lo n F D := by
  unfold gl
  simp only [h, Bool.false_eq_true, if_false]
  rw [List.map_const', List.length_range]
theorem gl_all {lo n : Nat} {F : Nat → Nat → Int} {D : Nat → Nat → Bool} (h : ∀ a b, a < n → b < n → D a b = true) : gl lo n F D = ((flat n n F).map ZN).map (· lo) := by
  rw [gl_ext (D' := fun _ _ => true) h, flat, List.map_map, List.map_map]
  unfold gl
  apply List.map_congr_left
  intro p _
  simp
def dO (i : Nat) : Nat → Nat → Bool := fun a b => decide (a < i ∧ b < i)
def dI (i j : Nat) : Nat → Nat → Bool := fun a b => decide ((a < i ∧ b < i) ∨ (a = i ∧ b = i) ∨ (a = i ∧ b < j) ∨ (b = i ∧ a < j))
def dJ (i j : Nat) : Nat → Nat → Bool := fun a b => decide ((a < i ∧ b < i) ∨ (a = i ∧ b = i) ∨ (a = i ∧ b < j) ∨ (b = i ∧ a < j) ∨ (a = i ∧ b = j))

set_option maxHeartbeats 400000 in
theorem prod1_w (w : World) (c c' : Value) (n m k k' x i j : Nat) (A B : List (List Int)) (r : List Int) (h : Hs w (AtE 1 (Mv n A k)) c) (h' : Hs w (AtE 1 (Mv m B k')) c') (hr : A[i]? = some r) (hRA : Reg A m) (hR : Reg B x) (hj : j < x) (hm : m ≤ 1048576) (hs : k + k' ≤ 1073741824) :
    Calls Tryd.prog 32 #[.int .i64 (i : Nat), .int .i64 (j : Nat), c, c'] w (Gives (ZN (wei r B j)) w) := by
  have hrow := row_at (k := k) hr hRA
  refine calls_sta (sl := [(0, (Is (.int .i64 (i : Nat)))), (1, (Is (.int .i64 (j : Nat)))), (2, (AtE 1 (Mv n A k))), (3, (AtE 1 (Mv m B k')))]) Tryd.func32 rfl Tryd.ntmps32 (by simp) (args_cons rfl (is_has _) (args_cons rfl (is_has _) (args_cons rfl (h) (args_cons rfl (h') args_nil)))) ?_
  intro a0 S0
  refine wp_stmt_seq [.new (.box 36 (Is (.agg #[.bool false, .slice none 0 0])))] [.inl 0] [.inr 0, .inr 1, .inr 2, .inr 3] follows S0 rfl (by kernel_rfl) ?_ ?_
  · refine ⟨trivial, ?_⟩
    · exact owe_new rfl (wants_all rfl) rfl rfl (fun ρ w => alloc_int ρ _ w)
  intro B1 a1 W1 S1
  replace S1 : Sta w 14 [(6, (.box 36 (Is (.agg #[.bool false, .slice none 0 0]))))] [(0, (Is (.int .i64 (i : Nat)))), (1, (Is (.int .i64 (j : Nat)))), (2, (AtE 1 (Mv n A k))), (3, (AtE 1 (Mv m B k')))] B1 a1 W1 := S1
  refine wp_stmt_seq [.val (Mv n A k),
      .val (Is (.int .i64 (i : Nat))),
      .val (AtE 1 (Vv m r k)),
      .val (Vv m r k),
      .val (Mv m B k'),
      .val (Is (.int .i64 (j : Nat))),
      .val ((ZN (wei r B j)) w.heap.size),
      .put (.inl 6) (.box 36 ((ZN (wei r B j)) w.heap.size))] [.inr 0] [] follows S1 rfl (by kernel_rfl) ?_ ?_
  · refine ⟨⟨⟨⟨⟨⟨⟨⟨trivial, ?_⟩, ?_⟩, ?_⟩, ?_⟩, ?_⟩, ?_⟩, ?_⟩, ?_⟩
    · exact owe_aload rfl (wants_all rfl) rfl ldr_mat1 (by decide) cel_ar (opnd_slot 2 2 rfl (by kernel_rfl)) rfl
    · exact owe_move rfl (wants_all rfl) (Or.inl rfl) (opnd_slot 0 0 rfl (by kernel_rfl)) rfl
    · exact owe_aindex rfl (wants_all rfl) rfl idx_rows (opnd_op 0 7 (by kernel_rfl) rfl) (opnd_op 1 8 (by kernel_rfl) rfl) hrow rfl
    · exact owe_aload rfl (wants_all rfl) rfl ldr_row1 (by decide) cel_vv (opnd_op 2 9 (by kernel_rfl) rfl) rfl
    · exact owe_aload rfl (wants_all rfl) rfl ldr_mat1 (by decide) cel_ar (opnd_slot 3 3 rfl (by kernel_rfl)) rfl
    · exact owe_move rfl (wants_all rfl) (Or.inl rfl) (opnd_slot 1 1 rfl (by kernel_rfl)) rfl
    · exact owe_callh3 rfl (wants_all rfl) rfl (opnd_op 3 10 (by kernel_rfl) rfl) (opnd_op 4 11 (by kernel_rfl) rfl) (opnd_op 5 12 (by kernel_rfl) rfl) (fresh_zn _) rfl (fun args w => by go_simp) (fun w u0 u1 u2 h0 h1 h2 => by obtain rfl : u2 = _ := h2.now; exact weighed_w w u0 u1 m k k' x j r B h0 h1 hR hj hm hs)
    · exact owe_set rfl (wants_all rfl) rfl (k := 0) rfl (by kernel_rfl) (opnd_op 6 13 (by kernel_rfl) rfl) (stores_of strct_int shp_z0 shp_zn) rfl
  intro B2 a2 W2 S2
  replace S2 : Sta w 14 [(6, (.box 36 ((ZN (wei r B j)) w.heap.size)))] [] B2 a2 W2 := S2
  refine wp_ret ?_
  exact end_one S2 rfl (res_cell S2 0 6 rfl strct_int shp_zn)

set_option maxHeartbeats 400000 in
theorem prod_y (w : World) (u v : Value) (n m k k' : Nat) (A B : List (List Int)) (h : Hs w (Mv n A k) u) (h' : Hs w (Mv m B k') v) (hn : n ≤ 1048576) (hm : m ≤ 1048576) (y : Nat) (hRA : Reg A y) (h0A : n = 0 → y = 0) (x : Nat) (hR : Reg B x) (h0 : m = 0 → x = 0) (hx : x ≤ 1048576) (hs : k + k' ≤ 1073741824) (hp : 0 < n) (hym : y = m) :
    Calls Tryd.prog 13 #[u, v] w (Gives (TWO (MN n (grid n x (prodF A B))) (IS (.int .i64 0))) w) := by
  have hA := mv_len h.now
  have hRM : Reg A m := by rw [← hym]; exact hRA
  refine calls_sta (sl := [(0, (Mv n A k)), (1, (Mv m B k'))]) Tryd.func13 rfl Tryd.ntmps13 (by simp) (args_cons rfl (h) (args_cons rfl (h') args_nil)) ?_
  intro a0 S0
  refine wp_stmt_seq [.new (.box 22 (Mv n A k)),
      .new (.box 22 (Mv m B k')),
      .val (Is (.slice none 0 0)),
      .val (Is (.int .i64 0))] [.inl 0, .inl 1] [.inl 2, .inl 3] follows S0 rfl (by kernel_rfl) ?_ ?_
  · refine ⟨⟨⟨⟨trivial, ?_⟩, ?_⟩, ?_⟩, ?_⟩
    · exact owe_box rfl (wants_all rfl) rfl (opnd_slot 0 0 rfl (by kernel_rfl)) rfl (fun ρ w h => bx1_mat ρ _ _ w (cel_ar _ _ h))
    · exact owe_box rfl (wants_all rfl) rfl (opnd_slot 1 1 rfl (by kernel_rfl)) rfl (fun ρ w h => bx1_mat ρ _ _ w (cel_ar _ _ h))
    · exact owe_move rfl (wants_all rfl) (Or.inr rfl) (opnd_const _) rfl
    · exact owe_move rfl (wants_all rfl) (Or.inr rfl) (opnd_const _) rfl
  intro B1 a1 W1 S1
  replace S1 : Sta w 43 [(2, (.box 22 (Mv n A k))), (3, (.box 22 (Mv m B k')))] [(4, (Is (.slice none 0 0))), (5, (Is (.int .i64 0)))] B1 a1 W1 := S1
  refine wp_stmt_seq [.val (Mv n A k),
      .val ((THREE (IS (.int .i64 (n : Nat))) (IS (.int .i64 (y : Nat))) (IS (.int .i64 0))) w.heap.size),
      .val ((THREE (IS (.int .i64 (n : Nat))) (IS (.int .i64 (y : Nat))) (IS (.int .i64 0))) w.heap.size),
      .val (Is (.int .i64 (n : Nat))),
      .val (Is (.int .i64 (y : Nat))),
      .val (Is (.int .i64 0)),
      .val (Is (.int .i64 (n : Nat))),
      .val (Is (.int .i64 (y : Nat))),
      .val (Is (.int .i64 0))] [.inr 0, .inr 1] [.inl 6, .inl 7, .inl 8, .inr 0, .inr 1] follows S1 rfl (by kernel_rfl) ?_ ?_
  · refine ⟨⟨⟨⟨⟨⟨⟨⟨⟨trivial, ?_⟩, ?_⟩, ?_⟩, ?_⟩, ?_⟩, ?_⟩, ?_⟩, ?_⟩, ?_⟩
    · exact owe_load rfl (wants_all rfl) rfl (k := 0) rfl (by kernel_rfl) (loads_ldr ldr_mat1 cel_ar) rfl
    · exact owe_callh1 rfl (wants_all rfl) rfl (opnd_op 0 13 (by kernel_rfl) rfl) (fresh_three (fresh_is _) (fresh_is _) (fresh_is _)) rfl (fun args w => by go_simp) (fun w u h => h_shape_y w u n _ y _ h (by omega) hRA h0A)
    · exact owe_move rfl (wants_all rfl) (Or.inl rfl) (opnd_op 1 14 (by kernel_rfl) rfl) rfl
    · exact owe_ext3 rfl (wants_all rfl) rfl (opnd_op 2 12 (by kernel_rfl) rfl) (Or.inl ⟨rfl, rfl⟩) rfl
    · exact owe_ext3 rfl (wants_all rfl) rfl (opnd_op 2 12 (by kernel_rfl) rfl) (Or.inr (Or.inl ⟨rfl, rfl⟩)) rfl
    · exact owe_ext3 rfl (wants_all rfl) rfl (opnd_op 2 12 (by kernel_rfl) rfl) (Or.inr (Or.inr ⟨rfl, rfl⟩)) rfl
    · exact owe_move rfl (wants_all rfl) (Or.inr rfl) (opnd_op 3 15 (by kernel_rfl) rfl) rfl
    · exact owe_move rfl (wants_all rfl) (Or.inr rfl) (opnd_op 4 16 (by kernel_rfl) rfl) rfl
    · exact owe_move rfl (wants_all rfl) (Or.inr rfl) (opnd_op 5 17 (by kernel_rfl) rfl) rfl
  intro B2 a2 W2 S2
  replace S2 : Sta w 43 [(2, (.box 22 (Mv n A k))), (3, (.box 22 (Mv m B k')))] [(6, (Is (.int .i64 (n : Nat)))), (7, (Is (.int .i64 (y : Nat)))), (8, (Is (.int .i64 0))), (4, (Is (.slice none 0 0))), (5, (Is (.int .i64 0)))] B2 a2 W2 := S2
  refine wp_stmt_seq [.val (Mv m B k'),
      .val ((THREE (IS (.int .i64 (m : Nat))) (IS (.int .i64 (x : Nat))) (IS (.int .i64 0))) w.heap.size),
      .val ((THREE (IS (.int .i64 (m : Nat))) (IS (.int .i64 (x : Nat))) (IS (.int .i64 0))) w.heap.size),
      .val (Is (.int .i64 (m : Nat))),
      .val (Is (.int .i64 (x : Nat))),
      .val (Is (.int .i64 0)),
      .val (Is (.int .i64 (m : Nat))),
      .val (Is (.int .i64 (x : Nat))),
      .val (Is (.int .i64 0))] [.inr 0, .inr 1] [.inl 6, .inl 7, .inl 8, .inr 0, .inr 1, .inr 2, .inr 3, .inr 4] follows S2 rfl (by kernel_rfl) ?_ ?_
  · refine ⟨⟨⟨⟨⟨⟨⟨⟨⟨trivial, ?_⟩, ?_⟩, ?_⟩, ?_⟩, ?_⟩, ?_⟩, ?_⟩, ?_⟩, ?_⟩
    · exact owe_load rfl (wants_all rfl) rfl (k := 1) rfl (by kernel_rfl) (loads_ldr ldr_mat1 cel_ar) rfl
    · exact owe_callh1 rfl (wants_all rfl) rfl (opnd_op 0 19 (by kernel_rfl) rfl) (fresh_three (fresh_is _) (fresh_is _) (fresh_is _)) rfl (fun args w => by go_simp) (fun w u h => h_shape_y w u m _ x _ h (by omega) hR h0)
    · exact owe_move rfl (wants_all rfl) (Or.inl rfl) (opnd_op 1 20 (by kernel_rfl) rfl) rfl
    · exact owe_ext3 rfl (wants_all rfl) rfl (opnd_op 2 18 (by kernel_rfl) rfl) (Or.inl ⟨rfl, rfl⟩) rfl
    · exact owe_ext3 rfl (wants_all rfl) rfl (opnd_op 2 18 (by kernel_rfl) rfl) (Or.inr (Or.inl ⟨rfl, rfl⟩)) rfl
    · exact owe_ext3 rfl (wants_all rfl) rfl (opnd_op 2 18 (by kernel_rfl) rfl) (Or.inr (Or.inr ⟨rfl, rfl⟩)) rfl
    · exact owe_move rfl (wants_all rfl) (Or.inr rfl) (opnd_op 3 21 (by kernel_rfl) rfl) rfl
    · exact owe_move rfl (wants_all rfl) (Or.inr rfl) (opnd_op 4 22 (by kernel_rfl) rfl) rfl
    · exact owe_move rfl (wants_all rfl) (Or.inr rfl) (opnd_op 5 23 (by kernel_rfl) rfl) rfl
  intro B3 a3 W3 S3
  replace S3 : Sta w 43 [(2, (.box 22 (Mv n A k))), (3, (.box 22 (Mv m B k')))] [(9, (Is (.int .i64 (m : Nat)))), (10, (Is (.int .i64 (x : Nat)))), (11, (Is (.int .i64 0))), (6, (Is (.int .i64 (n : Nat)))), (7, (Is (.int .i64 (y : Nat)))), (8, (Is (.int .i64 0))), (4, (Is (.slice none 0 0))), (5, (Is (.int .i64 0)))] B3 a3 W3 := S3
  refine wp_seq ?_
  refine wp_stmt_seq [.val (Is (.int .i64 0)),
      .val (Is (.bool false)),
      .val (Is (.bool false)),
      .val (Is (.int .i64 0)),
      .val (Is (.bool false)),
      .val (Is (.bool false)),
      .val (Is (.bool false)),
      .val (Is (.int .i64 (n : Nat))),
      .val (Is (.bool true)),
      .val (Is (.bool true)),
      .val (Is (.int .i64 (y : Nat))),
      .val (Is (.int .i64 (m : Nat))),
      .val (Is (.bool false)),
      .val (Is (.bool false)),
      .val (Is (.bool false))] [.inr 0, .inr 1] [.inl 14, .inr 1, .inr 3, .inr 6, .inr 7] follows S3 rfl (by kernel_rfl) ?_ ?_
  · refine ⟨⟨⟨⟨⟨⟨⟨⟨⟨⟨⟨⟨⟨⟨⟨trivial, ?_⟩, ?_⟩, ?_⟩, ?_⟩, ?_⟩, ?_⟩, ?_⟩, ?_⟩, ?_⟩, ?_⟩, ?_⟩, ?_⟩, ?_⟩, ?_⟩, ?_⟩
    · exact owe_move rfl (wants_all rfl) (Or.inl rfl) (opnd_slot 5 8 rfl (by kernel_rfl)) rfl
    · exact owe_bin rfl (wants_all rfl) rfl (opnd_op 0 24 (by kernel_rfl) rfl) (opnd_const _) rfl (fun ρ w h1 h2 => by exact run_neq_errno_f ρ _ _ _ w _ _ (by omega) h1 h2)
    · exact owe_move rfl (wants_all rfl) (Or.inl rfl) (opnd_op 1 25 (by kernel_rfl) rfl) rfl
    · exact owe_move rfl (wants_if 2 26 rfl (by kernel_rfl) rfl) (Or.inl rfl) (opnd_slot 2 11 rfl (by kernel_rfl)) rfl
    · exact owe_bin rfl (wants_if 2 26 rfl (by kernel_rfl) rfl) rfl (opnd_op 3 27 (by kernel_rfl) rfl) (opnd_const _) rfl (fun ρ w h1 h2 => by exact run_neq_errno_f ρ _ _ _ w _ _ (by omega) h1 h2)
    · exact owe_pick rfl (wants_all rfl) rfl (opnd_op 2 26 (by kernel_rfl) rfl) (fun h => nomatch h) (fun _ => (opnd_op 4 28 (by kernel_rfl) rfl)) rfl
    · exact owe_move rfl (wants_all rfl) (Or.inl rfl) (opnd_op 5 29 (by kernel_rfl) rfl) rfl
    · exact owe_move rfl (wants_if 6 30 rfl (by kernel_rfl) rfl) (Or.inl rfl) (opnd_slot 3 6 rfl (by kernel_rfl)) rfl
    · exact owe_bin rfl (wants_if 6 30 rfl (by kernel_rfl) rfl) rfl (opnd_op 7 31 (by kernel_rfl) rfl) (opnd_const _) rfl (fun ρ w h1 h2 => by exact run_gtr_int_t ρ _ _ _ w _ _ (by omega) h1 h2)
    · exact owe_move rfl (wants_if 6 30 rfl (by kernel_rfl) rfl) (Or.inl rfl) (opnd_op 8 32 (by kernel_rfl) rfl) rfl
    · exact owe_move rfl (wants_if 9 33 rfl (by kernel_rfl) rfl) (Or.inl rfl) (opnd_slot 4 7 rfl (by kernel_rfl)) rfl
    · exact owe_move rfl (wants_if 9 33 rfl (by kernel_rfl) rfl) (Or.inl rfl) (opnd_slot 0 9 rfl (by kernel_rfl)) rfl
    · exact owe_bin rfl (wants_if 9 33 rfl (by kernel_rfl) rfl) rfl (opnd_op 10 34 (by kernel_rfl) rfl) (opnd_op 11 35 (by kernel_rfl) rfl) rfl (fun ρ w h1 h2 => by exact run_neq_int_f ρ _ _ _ w _ _ (by omega) h1 h2)
    · exact owe_pick rfl (wants_if 6 30 rfl (by kernel_rfl) rfl) rfl (opnd_op 9 33 (by kernel_rfl) rfl) (fun _ => (opnd_op 12 36 (by kernel_rfl) rfl)) (fun h => nomatch h) rfl
    · exact owe_pick rfl (wants_all rfl) rfl (opnd_op 6 30 (by kernel_rfl) rfl) (fun h => nomatch h) (fun _ => (opnd_op 13 37 (by kernel_rfl) rfl)) rfl
  intro B4 a4 W4 S4
  replace S4 : Sta w 43 [(2, (.box 22 (Mv n A k))), (3, (.box 22 (Mv m B k')))] [(38, (Is (.bool false))), (10, (Is (.int .i64 (x : Nat)))), (6, (Is (.int .i64 (n : Nat)))), (4, (Is (.slice none 0 0))), (5, (Is (.int .i64 0)))] B4 a4 W4 := S4
  refine wp_cond_false (S4.bool 0 38 rfl) ?_
  refine wp_skip ?_
  refine thenN ?_
  obtain ⟨B5, S5⟩ : ∃ Bq, Sta w 43 [(3, (.box 22 (Mv m B k')))] [(2, (AtE 1 (Mv n A k))), (38, (Is (.bool false))), (10, (Is (.int .i64 (x : Nat)))), (6, (Is (.int .i64 (n : Nat)))), (4, (Is (.slice none 0 0))), (5, (Is (.int .i64 0)))] Bq a4 W4 := ⟨_, S4.freezeBox 0 rfl (by simp) cel_ar⟩
  obtain ⟨a5, W5, e1, e2⟩ : ∃ a W, a4 = a ∧ W4 = W := ⟨_, _, rfl, rfl⟩
  rw [e1, e2] at S5 ⊢
  clear e1 e2
  obtain ⟨B6, S6⟩ : ∃ Bq, Sta w 43 [] [(3, (AtE 1 (Mv m B k'))), (2, (AtE 1 (Mv n A k))), (38, (Is (.bool false))), (10, (Is (.int .i64 (x : Nat)))), (6, (Is (.int .i64 (n : Nat)))), (4, (Is (.slice none 0 0))), (5, (Is (.int .i64 0)))] Bq a5 W5 := ⟨_, S5.freezeBox 0 rfl (by simp) cel_ar⟩
  obtain ⟨a6, W6, e1, e2⟩ : ∃ a W, a5 = a ∧ W5 = W := ⟨_, _, rfl, rfl⟩
  rw [e1, e2] at S6 ⊢
  clear e1 e2
  refine wp_stmt_seq [.val (Is (.int .i64 (n : Nat))),
      .val (Is (.int .i64 (x : Nat))),
      .val (Fn2 ((List.range (n * x)).map (fun p => Is (.int .i64 ((p / x : Nat) : Int)))) ((List.range (n * x)).map (fun p => Is (.int .i64 ((p % x : Nat) : Int)))) ((flat n x (prodF A B)).map ZN)),
      .val ((MN n (grid n x (prodF A B))) w.heap.size),
      .val ((MN n (grid n x (prodF A B))) w.heap.size),
      .val (Is (.int .i64 0))] [] [.inl 4, .inl 5, .inr 0, .inr 1, .inr 2, .inr 4] follows S6 rfl (by kernel_rfl) ?_ ?_
  · refine ⟨⟨⟨⟨⟨⟨trivial, ?_⟩, ?_⟩, ?_⟩, ?_⟩, ?_⟩, ?_⟩
    · exact owe_move rfl (wants_all rfl) (Or.inl rfl) (opnd_slot 4 6 rfl (by kernel_rfl)) rfl
    · exact owe_move rfl (wants_all rfl) (Or.inl rfl) (opnd_slot 3 10 rfl (by kernel_rfl)) rfl
    · exact owe_mkfn22 rfl (wants_all rfl) rfl (opnd_slot 1 2 rfl (by kernel_rfl)) (opnd_slot 0 3 rfl (by kernel_rfl)) rfl (fun args w => by go_simp) (fun i φ φ' ψ h1 h2 h3 w u v c c' hu hv hc hc' => by obtain ⟨a, b, ha, hb, rfl, rfl, rfl⟩ := fn_grid h1 h2 h3; obtain rfl : u = _ := hu.now; obtain rfl : v = _ := hv.now; obtain ⟨r, hr⟩ : ∃ r, A[a]? = some r := ⟨A[a]'(by omega), List.getElem?_eq_getElem _⟩; rw [show prodF A B a b = wei r B b from (by show wei (A.getD a []) B b = _; rw [List.getD_eq_getElem?_getD, hr]; rfl)]; exact prod1_w w c c' n m k k' x a b A B r hc hc' hr hRM hR hb hm hs)
    · exact owe_callh3 rfl (wants_all rfl) rfl (opnd_op 0 39 (by kernel_rfl) rfl) (opnd_op 1 40 (by kernel_rfl) rfl) (opnd_op 2 41 (by kernel_rfl) rfl) fresh_mn rfl (fun args w => by go_simp) (fun w u0 u1 u2 h0 h1 h2 => by obtain rfl : u0 = _ := h0.now; obtain rfl : u1 = _ := h1.now; exact filled_w w u2 n x (prodF A B) h2 hn hx)
    · exact owe_move rfl (wants_all rfl) (Or.inr rfl) (opnd_op 3 42 (by kernel_rfl) rfl) rfl
    · exact owe_move rfl (wants_all rfl) (Or.inr rfl) (opnd_const _) rfl
  intro B7 a7 W7 S7
  replace S7 : Sta w 43 [] [(4, ((MN n (grid n x (prodF A B))) w.heap.size)), (5, (Is (.int .i64 0))), (3, (AtE 1 (Mv m B k'))), (2, (AtE 1 (Mv n A k))), (38, (Is (.bool false))), (6, (Is (.int .i64 (n : Nat))))] B7 a7 W7 := S7
  refine wp_ret ?_
  exact end_two S7 rfl (res_tmp S7 0 4 rfl) (res_tmp S7 1 5 rfl)

set_option maxHeartbeats 400000 in
theorem prod_0 (w : World) (u v : Value) (n m k k' : Nat) (A B : List (List Int)) (h : Hs w (Mv n A k) u) (h' : Hs w (Mv m B k') v) (hn : n ≤ 1048576) (hm : m ≤ 1048576) (y : Nat) (hRA : Reg A y) (h0A : n = 0 → y = 0) (x : Nat) (hR : Reg B x) (h0 : m = 0 → x = 0) (hx : x ≤ 1048576) (hs : k + k' ≤ 1073741824) (hp : n < 1) :
    Calls Tryd.prog 13 #[u, v] w (Gives (TWO (MN n (grid n x (prodF A B))) (IS (.int .i64 0))) w) := by
  have hA := mv_len h.now
  have hRM : Reg A m := fun i r hr => by have := (List.getElem?_eq_some_iff.1 hr).1; omega
  refine calls_sta (sl := [(0, (Mv n A k)), (1, (Mv m B k'))]) Tryd.func13 rfl Tryd.ntmps13 (by simp) (args_cons rfl (h) (args_cons rfl (h') args_nil)) ?_
  intro a0 S0
  refine wp_stmt_seq [.new (.box 22 (Mv n A k)),
      .new (.box 22 (Mv m B k')),
      .val (Is (.slice none 0 0)),
      .val (Is (.int .i64 0))] [.inl 0, .inl 1] [.inl 2, .inl 3] follows S0 rfl (by kernel_rfl) ?_ ?_
  · refine ⟨⟨⟨⟨trivial, ?_⟩, ?_⟩, ?_⟩, ?_⟩
    · exact owe_box rfl (wants_all rfl) rfl (opnd_slot 0 0 rfl (by kernel_rfl)) rfl (fun ρ w h => bx1_mat ρ _ _ w (cel_ar _ _ h))
    · exact owe_box rfl (wants_all rfl) rfl (opnd_slot 1 1 rfl (by kernel_rfl)) rfl (fun ρ w h => bx1_mat ρ _ _ w (cel_ar _ _ h))
    · exact owe_move rfl (wants_all rfl) (Or.inr rfl) (opnd_const _) rfl
    · exact owe_move rfl (wants_all rfl) (Or.inr rfl) (opnd_const _) rfl
  intro B1 a1 W1 S1
  replace S1 : Sta w 43 [(2, (.box 22 (Mv n A k))), (3, (.box 22 (Mv m B k')))] [(4, (Is (.slice none 0 0))), (5, (Is (.int .i64 0)))] B1 a1 W1 := S1
  refine wp_stmt_seq [.val (Mv n A k),
      .val ((THREE (IS (.int .i64 (n : Nat))) (IS (.int .i64 (y : Nat))) (IS (.int .i64 0))) w.heap.size),
      .val ((THREE (IS (.int .i64 (n : Nat))) (IS (.int .i64 (y : Nat))) (IS (.int .i64 0))) w.heap.size),
      .val (Is (.int .i64 (n : Nat))),
      .val (Is (.int .i64 (y : Nat))),
      .val (Is (.int .i64 0)),
      .val (Is (.int .i64 (n : Nat))),
      .val (Is (.int .i64 (y : Nat))),
      .val (Is (.int .i64 0))] [.inr 0, .inr 1] [.inl 6, .inl 7, .inl 8, .inr 0, .inr 1] follows S1 rfl (by kernel_rfl) ?_ ?_
  · refine ⟨⟨⟨⟨⟨⟨⟨⟨⟨trivial, ?_⟩, ?_⟩, ?_⟩, ?_⟩, ?_⟩, ?_⟩, ?_⟩, ?_⟩, ?_⟩
    · exact owe_load rfl (wants_all rfl) rfl (k := 0) rfl (by kernel_rfl) (loads_ldr ldr_mat1 cel_ar) rfl
    · exact owe_callh1 rfl (wants_all rfl) rfl (opnd_op 0 13 (by kernel_rfl) rfl) (fresh_three (fresh_is _) (fresh_is _) (fresh_is _)) rfl (fun args w => by go_simp) (fun w u h => h_shape_y w u n _ y _ h (by omega) hRA h0A)
    · exact owe_move rfl (wants_all rfl) (Or.inl rfl) (opnd_op 1 14 (by kernel_rfl) rfl) rfl
    · exact owe_ext3 rfl (wants_all rfl) rfl (opnd_op 2 12 (by kernel_rfl) rfl) (Or.inl ⟨rfl, rfl⟩) rfl
    · exact owe_ext3 rfl (wants_all rfl) rfl (opnd_op 2 12 (by kernel_rfl) rfl) (Or.inr (Or.inl ⟨rfl, rfl⟩)) rfl
    · exact owe_ext3 rfl (wants_all rfl) rfl (opnd_op 2 12 (by kernel_rfl) rfl) (Or.inr (Or.inr ⟨rfl, rfl⟩)) rfl
    · exact owe_move rfl (wants_all rfl) (Or.inr rfl) (opnd_op 3 15 (by kernel_rfl) rfl) rfl
    · exact owe_move rfl (wants_all rfl) (Or.inr rfl) (opnd_op 4 16 (by kernel_rfl) rfl) rfl
    · exact owe_move rfl (wants_all rfl) (Or.inr rfl) (opnd_op 5 17 (by kernel_rfl) rfl) rfl
  intro B2 a2 W2 S2
  replace S2 : Sta w 43 [(2, (.box 22 (Mv n A k))), (3, (.box 22 (Mv m B k')))] [(6, (Is (.int .i64 (n : Nat)))), (7, (Is (.int .i64 (y : Nat)))), (8, (Is (.int .i64 0))), (4, (Is (.slice none 0 0))), (5, (Is (.int .i64 0)))] B2 a2 W2 := S2
  refine wp_stmt_seq [.val (Mv m B k'),
      .val ((THREE (IS (.int .i64 (m : Nat))) (IS (.int .i64 (x : Nat))) (IS (.int .i64 0))) w.heap.size),
      .val ((THREE (IS (.int .i64 (m : Nat))) (IS (.int .i64 (x : Nat))) (IS (.int .i64 0))) w.heap.size),
      .val (Is (.int .i64 (m : Nat))),
      .val (Is (.int .i64 (x : Nat))),
      .val (Is (.int .i64 0)),
      .val (Is (.int .i64 (m : Nat))),
      .val (Is (.int .i64 (x : Nat))),
      .val (Is (.int .i64 0))] [.inr 0, .inr 1] [.inl 6, .inl 7, .inl 8, .inr 0, .inr 1, .inr 2, .inr 3, .inr 4] follows S2 rfl (by kernel_rfl) ?_ ?_
  · refine ⟨⟨⟨⟨⟨⟨⟨⟨⟨trivial, ?_⟩, ?_⟩, ?_⟩, ?_⟩, ?_⟩, ?_⟩, ?_⟩, ?_⟩, ?_⟩
    · exact owe_load rfl (wants_all rfl) rfl (k := 1) rfl (by kernel_rfl) (loads_ldr ldr_mat1 cel_ar) rfl
    · exact owe_callh1 rfl (wants_all rfl) rfl (opnd_op 0 19 (by kernel_rfl) rfl) (fresh_three (fresh_is _) (fresh_is _) (fresh_is _)) rfl (fun args w => by go_simp) (fun w u h => h_shape_y w u m _ x _ h (by omega) hR h0)
    · exact owe_move rfl (wants_all rfl) (Or.inl rfl) (opnd_op 1 20 (by kernel_rfl) rfl) rfl
    · exact owe_ext3 rfl (wants_all rfl) rfl (opnd_op 2 18 (by kernel_rfl) rfl) (Or.inl ⟨rfl, rfl⟩) rfl
    · exact owe_ext3 rfl (wants_all rfl) rfl (opnd_op 2 18 (by kernel_rfl) rfl) (Or.inr (Or.inl ⟨rfl, rfl⟩)) rfl
    · exact owe_ext3 rfl (wants_all rfl) rfl (opnd_op 2 18 (by kernel_rfl) rfl) (Or.inr (Or.inr ⟨rfl, rfl⟩)) rfl
    · exact owe_move rfl (wants_all rfl) (Or.inr rfl) (opnd_op 3 21 (by kernel_rfl) rfl) rfl
    · exact owe_move rfl (wants_all rfl) (Or.inr rfl) (opnd_op 4 22 (by kernel_rfl) rfl) rfl
    · exact owe_move rfl (wants_all rfl) (Or.inr rfl) (opnd_op 5 23 (by kernel_rfl) rfl) rfl
  intro B3 a3 W3 S3
  replace S3 : Sta w 43 [(2, (.box 22 (Mv n A k))), (3, (.box 22 (Mv m B k')))] [(9, (Is (.int .i64 (m : Nat)))), (10, (Is (.int .i64 (x : Nat)))), (11, (Is (.int .i64 0))), (6, (Is (.int .i64 (n : Nat)))), (7, (Is (.int .i64 (y : Nat)))), (8, (Is (.int .i64 0))), (4, (Is (.slice none 0 0))), (5, (Is (.int .i64 0)))] B3 a3 W3 := S3
  refine wp_seq ?_
  refine wp_stmt_seq [.val (Is (.int .i64 0)),
      .val (Is (.bool false)),
      .val (Is (.bool false)),
      .val (Is (.int .i64 0)),
      .val (Is (.bool false)),
      .val (Is (.bool false)),
      .val (Is (.bool false)),
      .val (Is (.int .i64 (n : Nat))),
      .val (Is (.bool false)),
      .val (Is (.bool false)),
      .off,
      .off,
      .off,
      .val (Is (.bool false)),
      .val (Is (.bool false))] [.inr 0, .inr 1] [.inl 14, .inr 1, .inr 3, .inr 6, .inr 7] follows S3 rfl (by kernel_rfl) ?_ ?_
  · refine ⟨⟨⟨⟨⟨⟨⟨⟨⟨⟨⟨⟨⟨⟨⟨trivial, ?_⟩, ?_⟩, ?_⟩, ?_⟩, ?_⟩, ?_⟩, ?_⟩, ?_⟩, ?_⟩, ?_⟩, ?_⟩, ?_⟩, ?_⟩, ?_⟩, ?_⟩
    · exact owe_move rfl (wants_all rfl) (Or.inl rfl) (opnd_slot 5 8 rfl (by kernel_rfl)) rfl
    · exact owe_bin rfl (wants_all rfl) rfl (opnd_op 0 24 (by kernel_rfl) rfl) (opnd_const _) rfl (fun ρ w h1 h2 => by exact run_neq_errno_f ρ _ _ _ w _ _ (by omega) h1 h2)
    · exact owe_move rfl (wants_all rfl) (Or.inl rfl) (opnd_op 1 25 (by kernel_rfl) rfl) rfl
    · exact owe_move rfl (wants_if 2 26 rfl (by kernel_rfl) rfl) (Or.inl rfl) (opnd_slot 2 11 rfl (by kernel_rfl)) rfl
    · exact owe_bin rfl (wants_if 2 26 rfl (by kernel_rfl) rfl) rfl (opnd_op 3 27 (by kernel_rfl) rfl) (opnd_const _) rfl (fun ρ w h1 h2 => by exact run_neq_errno_f ρ _ _ _ w _ _ (by omega) h1 h2)
    · exact owe_pick rfl (wants_all rfl) rfl (opnd_op 2 26 (by kernel_rfl) rfl) (fun h => nomatch h) (fun _ => (opnd_op 4 28 (by kernel_rfl) rfl)) rfl
    · exact owe_move rfl (wants_all rfl) (Or.inl rfl) (opnd_op 5 29 (by kernel_rfl) rfl) rfl
    · exact owe_move rfl (wants_if 6 30 rfl (by kernel_rfl) rfl) (Or.inl rfl) (opnd_slot 3 6 rfl (by kernel_rfl)) rfl
    · exact owe_bin rfl (wants_if 6 30 rfl (by kernel_rfl) rfl) rfl (opnd_op 7 31 (by kernel_rfl) rfl) (opnd_const _) rfl (fun ρ w h1 h2 => by exact run_gtr_int_f ρ _ _ _ w _ _ (by omega) h1 h2)
    · exact owe_move rfl (wants_if 6 30 rfl (by kernel_rfl) rfl) (Or.inl rfl) (opnd_op 8 32 (by kernel_rfl) rfl) rfl
    · exact owe_off 9 33 rfl rfl rfl (by kernel_rfl) rfl (by decide)
    · exact owe_off 9 33 rfl rfl rfl (by kernel_rfl) rfl (by decide)
    · exact owe_off 9 33 rfl rfl rfl (by kernel_rfl) rfl (by decide)
    · exact owe_pick rfl (wants_if 6 30 rfl (by kernel_rfl) rfl) rfl (opnd_op 9 33 (by kernel_rfl) rfl) (fun h => nomatch h) (fun _ => (opnd_const _)) rfl
    · exact owe_pick rfl (wants_all rfl) rfl (opnd_op 6 30 (by kernel_rfl) rfl) (fun h => nomatch h) (fun _ => (opnd_op 13 37 (by kernel_rfl) rfl)) rfl
  intro B4 a4 W4 S4
  replace S4 : Sta w 43 [(2, (.box 22 (Mv n A k))), (3, (.box 22 (Mv m B k')))] [(38, (Is (.bool false))), (10, (Is (.int .i64 (x : Nat)))), (6, (Is (.int .i64 (n : Nat)))), (4, (Is (.slice none 0 0))), (5, (Is (.int .i64 0)))] B4 a4 W4 := S4
  refine wp_cond_false (S4.bool 0 38 rfl) ?_
  refine wp_skip ?_
  refine thenN ?_
  obtain ⟨B5, S5⟩ : ∃ Bq, Sta w 43 [(3, (.box 22 (Mv m B k')))] [(2, (AtE 1 (Mv n A k))), (38, (Is (.bool false))), (10, (Is (.int .i64 (x : Nat)))), (6, (Is (.int .i64 (n : Nat)))), (4, (Is (.slice none 0 0))), (5, (Is (.int .i64 0)))] Bq a4 W4 := ⟨_, S4.freezeBox 0 rfl (by simp) cel_ar⟩
  obtain ⟨a5, W5, e1, e2⟩ : ∃ a W, a4 = a ∧ W4 = W := ⟨_, _, rfl, rfl⟩
  rw [e1, e2] at S5 ⊢
  clear e1 e2
  obtain ⟨B6, S6⟩ : ∃ Bq, Sta w 43 [] [(3, (AtE 1 (Mv m B k'))), (2, (AtE 1 (Mv n A k))), (38, (Is (.bool false))), (10, (Is (.int .i64 (x : Nat)))), (6, (Is (.int .i64 (n : Nat)))), (4, (Is (.slice none 0 0))), (5, (Is (.int .i64 0)))] Bq a5 W5 := ⟨_, S5.freezeBox 0 rfl (by simp) cel_ar⟩
  obtain ⟨a6, W6, e1, e2⟩ : ∃ a W, a5 = a ∧ W5 = W := ⟨_, _, rfl, rfl⟩
  rw [e1, e2] at S6 ⊢
  clear e1 e2
  refine wp_stmt_seq [.val (Is (.int .i64 (n : Nat))),
      .val (Is (.int .i64 (x : Nat))),
      .val (Fn2 ((List.range (n * x)).map (fun p => Is (.int .i64 ((p / x : Nat) : Int)))) ((List.range (n * x)).map (fun p => Is (.int .i64 ((p % x : Nat) : Int)))) ((flat n x (prodF A B)).map ZN)),
      .val ((MN n (grid n x (prodF A B))) w.heap.size),
      .val ((MN n (grid n x (prodF A B))) w.heap.size),
      .val (Is (.int .i64 0))] [] [.inl 4, .inl 5, .inr 0, .inr 1, .inr 2, .inr 4] follows S6 rfl (by kernel_rfl) ?_ ?_
  · refine ⟨⟨⟨⟨⟨⟨trivial, ?_⟩, ?_⟩, ?_⟩, ?_⟩, ?_⟩, ?_⟩
    · exact owe_move rfl (wants_all rfl) (Or.inl rfl) (opnd_slot 4 6 rfl (by kernel_rfl)) rfl
    · exact owe_move rfl (wants_all rfl) (Or.inl rfl) (opnd_slot 3 10 rfl (by kernel_rfl)) rfl
    · exact owe_mkfn22 rfl (wants_all rfl) rfl (opnd_slot 1 2 rfl (by kernel_rfl)) (opnd_slot 0 3 rfl (by kernel_rfl)) rfl (fun args w => by go_simp) (fun i φ φ' ψ h1 h2 h3 w u v c c' hu hv hc hc' => by obtain ⟨a, b, ha, hb, rfl, rfl, rfl⟩ := fn_grid h1 h2 h3; obtain rfl : u = _ := hu.now; obtain rfl : v = _ := hv.now; obtain ⟨r, hr⟩ : ∃ r, A[a]? = some r := ⟨A[a]'(by omega), List.getElem?_eq_getElem _⟩; rw [show prodF A B a b = wei r B b from (by show wei (A.getD a []) B b = _; rw [List.getD_eq_getElem?_getD, hr]; rfl)]; exact prod1_w w c c' n m k k' x a b A B r hc hc' hr hRM hR hb hm hs)
    · exact owe_callh3 rfl (wants_all rfl) rfl (opnd_op 0 39 (by kernel_rfl) rfl) (opnd_op 1 40 (by kernel_rfl) rfl) (opnd_op 2 41 (by kernel_rfl) rfl) fresh_mn rfl (fun args w => by go_simp) (fun w u0 u1 u2 h0 h1 h2 => by obtain rfl : u0 = _ := h0.now; obtain rfl : u1 = _ := h1.now; exact filled_w w u2 n x (prodF A B) h2 hn hx)
    · exact owe_move rfl (wants_all rfl) (Or.inr rfl) (opnd_op 3 42 (by kernel_rfl) rfl) rfl
    · exact owe_move rfl (wants_all rfl) (Or.inr rfl) (opnd_const _) rfl
  intro B7 a7 W7 S7
  replace S7 : Sta w 43 [] [(4, ((MN n (grid n x (prodF A B))) w.heap.size)), (5, (Is (.int .i64 0))), (3, (AtE 1 (Mv m B k'))), (2, (AtE 1 (Mv n A k))), (38, (Is (.bool false))), (6, (Is (.int .i64 (n : Nat))))] B7 a7 W7 := S7
  refine wp_ret ?_
  exact end_two S7 rfl (res_tmp S7 0 4 rfl) (res_tmp S7 1 5 rfl)

set_option maxHeartbeats 400000 in
theorem prod_a (w : World) (u v : Value) (n m k k' : Nat) (A B : List (List Int)) (h : Hs w (Mv n A k) u) (h' : Hs w (Mv m B k') v) (hn : n ≤ 1048576) (hm : m ≤ 1048576) (x : Nat) (hR : Reg B x) (h0 : m = 0 → x = 0) (hRA : ¬ reg A = true) :
    Calls Tryd.prog 13 #[u, v] w (Gives (TWO (IS (.slice none 0 0)) (IS (.int .i64 8))) w) := by
  refine calls_sta (sl := [(0, (Mv n A k)), (1, (Mv m B k'))]) Tryd.func13 rfl Tryd.ntmps13 (by simp) (args_cons rfl (h) (args_cons rfl (h') args_nil)) ?_
  intro a0 S0
  refine wp_stmt_seq [.new (.box 22 (Mv n A k)),
      .new (.box 22 (Mv m B k')),
      .val (Is (.slice none 0 0)),
      .val (Is (.int .i64 0))] [.inl 0, .inl 1] [.inl 2, .inl 3] follows S0 rfl (by kernel_rfl) ?_ ?_
  · refine ⟨⟨⟨⟨trivial, ?_⟩, ?_⟩, ?_⟩, ?_⟩
    · exact owe_box rfl (wants_all rfl) rfl (opnd_slot 0 0 rfl (by kernel_rfl)) rfl (fun ρ w h => bx1_mat ρ _ _ w (cel_ar _ _ h))
    · exact owe_box rfl (wants_all rfl) rfl (opnd_slot 1 1 rfl (by kernel_rfl)) rfl (fun ρ w h => bx1_mat ρ _ _ w (cel_ar _ _ h))
    · exact owe_move rfl (wants_all rfl) (Or.inr rfl) (opnd_const _) rfl
    · exact owe_move rfl (wants_all rfl) (Or.inr rfl) (opnd_const _) rfl
  intro B1 a1 W1 S1
  replace S1 : Sta w 43 [(2, (.box 22 (Mv n A k))), (3, (.box 22 (Mv m B k')))] [(4, (Is (.slice none 0 0))), (5, (Is (.int .i64 0)))] B1 a1 W1 := S1
  refine wp_stmt_seq [.val (Mv n A k),
      .val ((THREE (IS (.int .i64 0)) (IS (.int .i64 0)) (IS (.int .i64 8))) w.heap.size),
      .val ((THREE (IS (.int .i64 0)) (IS (.int .i64 0)) (IS (.int .i64 8))) w.heap.size),
      .val (Is (.int .i64 0)),
      .val (Is (.int .i64 0)),
      .val (Is (.int .i64 8)),
      .val (Is (.int .i64 0)),
      .val (Is (.int .i64 0)),
      .val (Is (.int .i64 8))] [.inr 0, .inr 1] [.inl 6, .inl 7, .inl 8, .inr 0, .inr 1] follows S1 rfl (by kernel_rfl) ?_ ?_
  · refine ⟨⟨⟨⟨⟨⟨⟨⟨⟨trivial, ?_⟩, ?_⟩, ?_⟩, ?_⟩, ?_⟩, ?_⟩, ?_⟩, ?_⟩, ?_⟩
    · exact owe_load rfl (wants_all rfl) rfl (k := 0) rfl (by kernel_rfl) (loads_ldr ldr_mat1 cel_ar) rfl
    · exact owe_callh1 rfl (wants_all rfl) rfl (opnd_op 0 13 (by kernel_rfl) rfl) (fresh_three (fresh_is _) (fresh_is _) (fresh_is _)) rfl (fun args w => by go_simp) (fun w u h => h_shape_n w u n _ _ h (by omega) hRA)
    · exact owe_move rfl (wants_all rfl) (Or.inl rfl) (opnd_op 1 14 (by kernel_rfl) rfl) rfl
    · exact owe_ext3 rfl (wants_all rfl) rfl (opnd_op 2 12 (by kernel_rfl) rfl) (Or.inl ⟨rfl, rfl⟩) rfl
    · exact owe_ext3 rfl (wants_all rfl) rfl (opnd_op 2 12 (by kernel_rfl) rfl) (Or.inr (Or.inl ⟨rfl, rfl⟩)) rfl
    · exact owe_ext3 rfl (wants_all rfl) rfl (opnd_op 2 12 (by kernel_rfl) rfl) (Or.inr (Or.inr ⟨rfl, rfl⟩)) rfl
    · exact owe_move rfl (wants_all rfl) (Or.inr rfl) (opnd_op 3 15 (by kernel_rfl) rfl) rfl
    · exact owe_move rfl (wants_all rfl) (Or.inr rfl) (opnd_op 4 16 (by kernel_rfl) rfl) rfl
    · exact owe_move rfl (wants_all rfl) (Or.inr rfl) (opnd_op 5 17 (by kernel_rfl) rfl) rfl
  intro B2 a2 W2 S2
  replace S2 : Sta w 43 [(2, (.box 22 (Mv n A k))), (3, (.box 22 (Mv m B k')))] [(6, (Is (.int .i64 0))), (7, (Is (.int .i64 0))), (8, (Is (.int .i64 8))), (4, (Is (.slice none 0 0))), (5, (Is (.int .i64 0)))] B2 a2 W2 := S2
  refine wp_stmt_seq [.val (Mv m B k'),
      .val ((THREE (IS (.int .i64 (m : Nat))) (IS (.int .i64 (x : Nat))) (IS (.int .i64 0))) w.heap.size),
      .val ((THREE (IS (.int .i64 (m : Nat))) (IS (.int .i64 (x : Nat))) (IS (.int .i64 0))) w.heap.size),
      .val (Is (.int .i64 (m : Nat))),
      .val (Is (.int .i64 (x : Nat))),
      .val (Is (.int .i64 0)),
      .val (Is (.int .i64 (m : Nat))),
      .val (Is (.int .i64 (x : Nat))),
      .val (Is (.int .i64 0))] [.inr 0, .inr 1] [.inl 6, .inl 7, .inl 8, .inr 0, .inr 1, .inr 2, .inr 3, .inr 4] follows S2 rfl (by kernel_rfl) ?_ ?_
  · refine ⟨⟨⟨⟨⟨⟨⟨⟨⟨trivial, ?_⟩, ?_⟩, ?_⟩, ?_⟩, ?_⟩, ?_⟩, ?_⟩, ?_⟩, ?_⟩
    · exact owe_load rfl (wants_all rfl) rfl (k := 1) rfl (by kernel_rfl) (loads_ldr ldr_mat1 cel_ar) rfl
    · exact owe_callh1 rfl (wants_all rfl) rfl (opnd_op 0 19 (by kernel_rfl) rfl) (fresh_three (fresh_is _) (fresh_is _) (fresh_is _)) rfl (fun args w => by go_simp) (fun w u h => h_shape_y w u m _ x _ h (by omega) hR h0)
    · exact owe_move rfl (wants_all rfl) (Or.inl rfl) (opnd_op 1 20 (by kernel_rfl) rfl) rfl
    · exact owe_ext3 rfl (wants_all rfl) rfl (opnd_op 2 18 (by kernel_rfl) rfl) (Or.inl ⟨rfl, rfl⟩) rfl
    · exact owe_ext3 rfl (wants_all rfl) rfl (opnd_op 2 18 (by kernel_rfl) rfl) (Or.inr (Or.inl ⟨rfl, rfl⟩)) rfl
    · exact owe_ext3 rfl (wants_all rfl) rfl (opnd_op 2 18 (by kernel_rfl) rfl) (Or.inr (Or.inr ⟨rfl, rfl⟩)) rfl
    · exact owe_move rfl (wants_all rfl) (Or.inr rfl) (opnd_op 3 21 (by kernel_rfl) rfl) rfl
    · exact owe_move rfl (wants_all rfl) (Or.inr rfl) (opnd_op 4 22 (by kernel_rfl) rfl) rfl
    · exact owe_move rfl (wants_all rfl) (Or.inr rfl) (opnd_op 5 23 (by kernel_rfl) rfl) rfl
  intro B3 a3 W3 S3
  replace S3 : Sta w 43 [(2, (.box 22 (Mv n A k))), (3, (.box 22 (Mv m B k')))] [(9, (Is (.int .i64 (m : Nat)))), (10, (Is (.int .i64 (x : Nat)))), (11, (Is (.int .i64 0))), (6, (Is (.int .i64 0))), (7, (Is (.int .i64 0))), (8, (Is (.int .i64 8))), (4, (Is (.slice none 0 0))), (5, (Is (.int .i64 0)))] B3 a3 W3 := S3
  refine wp_seq ?_
  refine wp_stmt_seq [.val (Is (.int .i64 8)),
      .val (Is (.bool true)),
      .val (Is (.bool true)),
      .off,
      .off,
      .val (Is (.bool true)),
      .val (Is (.bool true)),
      .off,
      .off,
      .val (Is (undef)),
      .off,
      .off,
      .off,
      .off,
      .val (Is (.bool true))] [.inr 0, .inr 1] [.inl 14, .inr 1, .inr 3, .inr 6, .inr 7] follows S3 rfl (by kernel_rfl) ?_ ?_
  · refine ⟨⟨⟨⟨⟨⟨⟨⟨⟨⟨⟨⟨⟨⟨⟨trivial, ?_⟩, ?_⟩, ?_⟩, ?_⟩, ?_⟩, ?_⟩, ?_⟩, ?_⟩, ?_⟩, ?_⟩, ?_⟩, ?_⟩, ?_⟩, ?_⟩, ?_⟩
    · exact owe_move rfl (wants_all rfl) (Or.inl rfl) (opnd_slot 5 8 rfl (by kernel_rfl)) rfl
    · exact owe_bin rfl (wants_all rfl) rfl (opnd_op 0 24 (by kernel_rfl) rfl) (opnd_const _) rfl (fun ρ w h1 h2 => by exact run_neq_errno_t ρ _ _ _ w _ _ (by omega) h1 h2)
    · exact owe_move rfl (wants_all rfl) (Or.inl rfl) (opnd_op 1 25 (by kernel_rfl) rfl) rfl
    · exact owe_off 2 26 rfl rfl rfl (by kernel_rfl) rfl (by decide)
    · exact owe_off 2 26 rfl rfl rfl (by kernel_rfl) rfl (by decide)
    · exact owe_pick rfl (wants_all rfl) rfl (opnd_op 2 26 (by kernel_rfl) rfl) (fun _ => (opnd_const _)) (fun h => nomatch h) rfl
    · exact owe_move rfl (wants_all rfl) (Or.inl rfl) (opnd_op 5 29 (by kernel_rfl) rfl) rfl
    · exact owe_off 6 30 rfl rfl rfl (by kernel_rfl) rfl (by decide)
    · exact owe_off 6 30 rfl rfl rfl (by kernel_rfl) rfl (by decide)
    · exact owe_offv 6 30 rfl rfl rfl (by kernel_rfl) rfl (by decide)
    · exact owe_offu 9 33 rfl rfl rfl (by kernel_rfl) rfl
    · exact owe_offu 9 33 rfl rfl rfl (by kernel_rfl) rfl
    · exact owe_offu 9 33 rfl rfl rfl (by kernel_rfl) rfl
    · exact owe_off 6 30 rfl rfl rfl (by kernel_rfl) rfl (by decide)
    · exact owe_pick rfl (wants_all rfl) rfl (opnd_op 6 30 (by kernel_rfl) rfl) (fun _ => (opnd_const _)) (fun h => nomatch h) rfl
  intro B4 a4 W4 S4
  replace S4 : Sta w 43 [(2, (.box 22 (Mv n A k))), (3, (.box 22 (Mv m B k')))] [(38, (Is (.bool true))), (10, (Is (.int .i64 (x : Nat)))), (6, (Is (.int .i64 0))), (4, (Is (.slice none 0 0))), (5, (Is (.int .i64 0)))] B4 a4 W4 := S4
  refine wp_cond_true (S4.bool 0 38 rfl) ?_
  refine wp_stmt_seq [.val (Is (.slice none 0 0)),
      .val (Is (.int .i64 8))] [.inr 0, .inr 1] [.inl 0, .inl 1, .inr 0, .inr 1, .inr 2] follows S4 rfl (by kernel_rfl) ?_ ?_
  · refine ⟨⟨trivial, ?_⟩, ?_⟩
    · exact owe_move rfl (wants_all rfl) (Or.inr rfl) (opnd_const _) rfl
    · exact owe_move rfl (wants_all rfl) (Or.inr rfl) (opnd_const _) rfl
  intro B5 a5 W5 S5
  replace S5 : Sta w 43 [(2, (.box 22 (Mv n A k))), (3, (.box 22 (Mv m B k')))] [(4, (Is (.slice none 0 0))), (5, (Is (.int .i64 8))), (38, (Is (.bool true))), (10, (Is (.int .i64 (x : Nat)))), (6, (Is (.int .i64 0)))] B5 a5 W5 := S5
  refine wp_ret ?_
  refine thenR ?_
  exact end_two S5 rfl (res_tmp S5 0 4 rfl) (res_tmp S5 1 5 rfl)

set_option maxHeartbeats 400000 in
theorem prod_a2 (w : World) (u v : Value) (n m k k' : Nat) (A B : List (List Int)) (h : Hs w (Mv n A k) u) (h' : Hs w (Mv m B k') v) (hn : n ≤ 1048576) (hm : m ≤ 1048576) (hRA : ¬ reg A = true) (hR : ¬ reg B = true) :
    Calls Tryd.prog 13 #[u, v] w (Gives (TWO (IS (.slice none 0 0)) (IS (.int .i64 8))) w) := by
  refine calls_sta (sl := [(0, (Mv n A k)), (1, (Mv m B k'))]) Tryd.func13 rfl Tryd.ntmps13 (by simp) (args_cons rfl (h) (args_cons rfl (h') args_nil)) ?_
  intro a0 S0
  refine wp_stmt_seq [.new (.box 22 (Mv n A k)),
      .new (.box 22 (Mv m B k')),
      .val (Is (.slice none 0 0)),
      .val (Is (.int .i64 0))] [.inl 0, .inl 1] [.inl 2, .inl 3] follows S0 rfl (by kernel_rfl) ?_ ?_
  · refine ⟨⟨⟨⟨trivial, ?_⟩, ?_⟩, ?_⟩, ?_⟩
    · exact owe_box rfl (wants_all rfl) rfl (opnd_slot 0 0 rfl (by kernel_rfl)) rfl (fun ρ w h => bx1_mat ρ _ _ w (cel_ar _ _ h))
    · exact owe_box rfl (wants_all rfl) rfl (opnd_slot 1 1 rfl (by kernel_rfl)) rfl (fun ρ w h => bx1_mat ρ _ _ w (cel_ar _ _ h))
    · exact owe_move rfl (wants_all rfl) (Or.inr rfl) (opnd_const _) rfl
    · exact owe_move rfl (wants_all rfl) (Or.inr rfl) (opnd_const _) rfl
  intro B1 a1 W1 S1
  replace S1 : Sta w 43 [(2, (.box 22 (Mv n A k))), (3, (.box 22 (Mv m B k')))] [(4, (Is (.slice none 0 0))), (5, (Is (.int .i64 0)))] B1 a1 W1 := S1
  refine wp_stmt_seq [.val (Mv n A k),
      .val ((THREE (IS (.int .i64 0)) (IS (.int .i64 0)) (IS (.int .i64 8))) w.heap.size),
      .val ((THREE (IS (.int .i64 0)) (IS (.int .i64 0)) (IS (.int .i64 8))) w.heap.size),
      .val (Is (.int .i64 0)),
      .val (Is (.int .i64 0)),
      .val (Is (.int .i64 8)),
      .val (Is (.int .i64 0)),
      .val (Is (.int .i64 0)),
      .val (Is (.int .i64 8))] [.inr 0, .inr 1] [.inl 6, .inl 7, .inl 8, .inr 0, .inr 1] follows S1 rfl (by kernel_rfl) ?_ ?_
  · refine ⟨⟨⟨⟨⟨⟨⟨⟨⟨trivial, ?_⟩, ?_⟩, ?_⟩, ?_⟩, ?_⟩, ?_⟩, ?_⟩, ?_⟩, ?_⟩
    · exact owe_load rfl (wants_all rfl) rfl (k := 0) rfl (by kernel_rfl) (loads_ldr ldr_mat1 cel_ar) rfl
    · exact owe_callh1 rfl (wants_all rfl) rfl (opnd_op 0 13 (by kernel_rfl) rfl) (fresh_three (fresh_is _) (fresh_is _) (fresh_is _)) rfl (fun args w => by go_simp) (fun w u h => h_shape_n w u n _ _ h (by omega) hRA)
    · exact owe_move rfl (wants_all rfl) (Or.inl rfl) (opnd_op 1 14 (by kernel_rfl) rfl) rfl
    · exact owe_ext3 rfl (wants_all rfl) rfl (opnd_op 2 12 (by kernel_rfl) rfl) (Or.inl ⟨rfl, rfl⟩) rfl
    · exact owe_ext3 rfl (wants_all rfl) rfl (opnd_op 2 12 (by kernel_rfl) rfl) (Or.inr (Or.inl ⟨rfl, rfl⟩)) rfl
    · exact owe_ext3 rfl (wants_all rfl) rfl (opnd_op 2 12 (by kernel_rfl) rfl) (Or.inr (Or.inr ⟨rfl, rfl⟩)) rfl
    · exact owe_move rfl (wants_all rfl) (Or.inr rfl) (opnd_op 3 15 (by kernel_rfl) rfl) rfl
    · exact owe_move rfl (wants_all rfl) (Or.inr rfl) (opnd_op 4 16 (by kernel_rfl) rfl) rfl
    · exact owe_move rfl (wants_all rfl) (Or.inr rfl) (opnd_op 5 17 (by kernel_rfl) rfl) rfl
  intro B2 a2 W2 S2
  replace S2 : Sta w 43 [(2, (.box 22 (Mv n A k))), (3, (.box 22 (Mv m B k')))] [(6, (Is (.int .i64 0))), (7, (Is (.int .i64 0))), (8, (Is (.int .i64 8))), (4, (Is (.slice none 0 0))), (5, (Is (.int .i64 0)))] B2 a2 W2 := S2
  refine wp_stmt_seq [.val (Mv m B k'),
      .val ((THREE (IS (.int .i64 0)) (IS (.int .i64 0)) (IS (.int .i64 8))) w.heap.size),
      .val ((THREE (IS (.int .i64 0)) (IS (.int .i64 0)) (IS (.int .i64 8))) w.heap.size),
      .val (Is (.int .i64 0)),
      .val (Is (.int .i64 0)),
      .val (Is (.int .i64 8)),
      .val (Is (.int .i64 0)),
      .val (Is (.int .i64 0)),
      .val (Is (.int .i64 8))] [.inr 0, .inr 1] [.inl 6, .inl 7, .inl 8, .inr 0, .inr 1, .inr 2, .inr 3, .inr 4] follows S2 rfl (by kernel_rfl) ?_ ?_
  · refine ⟨⟨⟨⟨⟨⟨⟨⟨⟨trivial, ?_⟩, ?_⟩, ?_⟩, ?_⟩, ?_⟩, ?_⟩, ?_⟩, ?_⟩, ?_⟩
    · exact owe_load rfl (wants_all rfl) rfl (k := 1) rfl (by kernel_rfl) (loads_ldr ldr_mat1 cel_ar) rfl
    · exact owe_callh1 rfl (wants_all rfl) rfl (opnd_op 0 19 (by kernel_rfl) rfl) (fresh_three (fresh_is _) (fresh_is _) (fresh_is _)) rfl (fun args w => by go_simp) (fun w u h => h_shape_n w u m _ _ h (by omega) hR)
    · exact owe_move rfl (wants_all rfl) (Or.inl rfl) (opnd_op 1 20 (by kernel_rfl) rfl) rfl
    · exact owe_ext3 rfl (wants_all rfl) rfl (opnd_op 2 18 (by kernel_rfl) rfl) (Or.inl ⟨rfl, rfl⟩) rfl
    · exact owe_ext3 rfl (wants_all rfl) rfl (opnd_op 2 18 (by kernel_rfl) rfl) (Or.inr (Or.inl ⟨rfl, rfl⟩)) rfl
    · exact owe_ext3 rfl (wants_all rfl) rfl (opnd_op 2 18 (by kernel_rfl) rfl) (Or.inr (Or.inr ⟨rfl, rfl⟩)) rfl
    · exact owe_move rfl (wants_all rfl) (Or.inr rfl) (opnd_op 3 21 (by kernel_rfl) rfl) rfl
    · exact owe_move rfl (wants_all rfl) (Or.inr rfl) (opnd_op 4 22 (by kernel_rfl) rfl) rfl
    · exact owe_move rfl (wants_all rfl) (Or.inr rfl) (opnd_op 5 23 (by kernel_rfl) rfl) rfl
  intro B3 a3 W3 S3
  replace S3 : Sta w 43 [(2, (.box 22 (Mv n A k))), (3, (.box 22 (Mv m B k')))] [(9, (Is (.int .i64 0))), (10, (Is (.int .i64 0))), (11, (Is (.int .i64 8))), (6, (Is (.int .i64 0))), (7, (Is (.int .i64 0))), (8, (Is (.int .i64 8))), (4, (Is (.slice none 0 0))), (5, (Is (.int .i64 0)))] B3 a3 W3 := S3
  refine wp_seq ?_
  refine wp_stmt_seq [.val (Is (.int .i64 8)),
      .val (Is (.bool true)),
      .val (Is (.bool true)),
      .off,
      .off,
      .val (Is (.bool true)),
      .val (Is (.bool true)),
      .off,
      .off,
      .val (Is (undef)),
      .off,
      .off,
      .off,
      .off,
      .val (Is (.bool true))] [.inr 0, .inr 1] [.inl 14, .inr 1, .inr 3, .inr 6, .inr 7] follows S3 rfl (by kernel_rfl) ?_ ?_
  · refine ⟨⟨⟨⟨⟨⟨⟨⟨⟨⟨⟨⟨⟨⟨⟨trivial, ?_⟩, ?_⟩, ?_⟩, ?_⟩, ?_⟩, ?_⟩, ?_⟩, ?_⟩, ?_⟩, ?_⟩, ?_⟩, ?_⟩, ?_⟩, ?_⟩, ?_⟩
    · exact owe_move rfl (wants_all rfl) (Or.inl rfl) (opnd_slot 5 8 rfl (by kernel_rfl)) rfl
    · exact owe_bin rfl (wants_all rfl) rfl (opnd_op 0 24 (by kernel_rfl) rfl) (opnd_const _) rfl (fun ρ w h1 h2 => by exact run_neq_errno_t ρ _ _ _ w _ _ (by omega) h1 h2)
    · exact owe_move rfl (wants_all rfl) (Or.inl rfl) (opnd_op 1 25 (by kernel_rfl) rfl) rfl
    · exact owe_off 2 26 rfl rfl rfl (by kernel_rfl) rfl (by decide)
    · exact owe_off 2 26 rfl rfl rfl (by kernel_rfl) rfl (by decide)
    · exact owe_pick rfl (wants_all rfl) rfl (opnd_op 2 26 (by kernel_rfl) rfl) (fun _ => (opnd_const _)) (fun h => nomatch h) rfl
    · exact owe_move rfl (wants_all rfl) (Or.inl rfl) (opnd_op 5 29 (by kernel_rfl) rfl) rfl
    · exact owe_off 6 30 rfl rfl rfl (by kernel_rfl) rfl (by decide)
    · exact owe_off 6 30 rfl rfl rfl (by kernel_rfl) rfl (by decide)
    · exact owe_offv 6 30 rfl rfl rfl (by kernel_rfl) rfl (by decide)
    · exact owe_offu 9 33 rfl rfl rfl (by kernel_rfl) rfl
    · exact owe_offu 9 33 rfl rfl rfl (by kernel_rfl) rfl
    · exact owe_offu 9 33 rfl rfl rfl (by kernel_rfl) rfl
    · exact owe_off 6 30 rfl rfl rfl (by kernel_rfl) rfl (by decide)
    · exact owe_pick rfl (wants_all rfl) rfl (opnd_op 6 30 (by kernel_rfl) rfl) (fun _ => (opnd_const _)) (fun h => nomatch h) rfl
  intro B4 a4 W4 S4
  replace S4 : Sta w 43 [(2, (.box 22 (Mv n A k))), (3, (.box 22 (Mv m B k')))] [(38, (Is (.bool true))), (10, (Is (.int .i64 0))), (6, (Is (.int .i64 0))), (4, (Is (.slice none 0 0))), (5, (Is (.int .i64 0)))] B4 a4 W4 := S4
  refine wp_cond_true (S4.bool 0 38 rfl) ?_
  refine wp_stmt_seq [.val (Is (.slice none 0 0)),
      .val (Is (.int .i64 8))] [.inr 0, .inr 1] [.inl 0, .inl 1, .inr 0, .inr 1, .inr 2] follows S4 rfl (by kernel_rfl) ?_ ?_
  · refine ⟨⟨trivial, ?_⟩, ?_⟩
    · exact owe_move rfl (wants_all rfl) (Or.inr rfl) (opnd_const _) rfl
    · exact owe_move rfl (wants_all rfl) (Or.inr rfl) (opnd_const _) rfl
  intro B5 a5 W5 S5
  replace S5 : Sta w 43 [(2, (.box 22 (Mv n A k))), (3, (.box 22 (Mv m B k')))] [(4, (Is (.slice none 0 0))), (5, (Is (.int .i64 8))), (38, (Is (.bool true))), (10, (Is (.int .i64 0))), (6, (Is (.int .i64 0)))] B5 a5 W5 := S5
  refine wp_ret ?_
  refine thenR ?_
  exact end_two S5 rfl (res_tmp S5 0 4 rfl) (res_tmp S5 1 5 rfl)

set_option maxHeartbeats 400000 in
theorem prod_b (w : World) (u v : Value) (n m k k' : Nat) (A B : List (List Int)) (h : Hs w (Mv n A k) u) (h' : Hs w (Mv m B k') v) (hn : n ≤ 1048576) (hm : m ≤ 1048576) (y : Nat) (hRA : Reg A y) (h0A : n = 0 → y = 0) (hR : ¬ reg B = true) :
    Calls Tryd.prog 13 #[u, v] w (Gives (TWO (IS (.slice none 0 0)) (IS (.int .i64 8))) w) := by
  refine calls_sta (sl := [(0, (Mv n A k)), (1, (Mv m B k'))]) Tryd.func13 rfl Tryd.ntmps13 (by simp) (args_cons rfl (h) (args_cons rfl (h') args_nil)) ?_
  intro a0 S0
  refine wp_stmt_seq [.new (.box 22 (Mv n A k)),
      .new (.box 22 (Mv m B k')),
      .val (Is (.slice none 0 0)),
      .val (Is (.int .i64 0))] [.inl 0, .inl 1] [.inl 2, .inl 3] follows S0 rfl (by kernel_rfl) ?_ ?_
  · refine ⟨⟨⟨⟨trivial, ?_⟩, ?_⟩, ?_⟩, ?_⟩
    · exact owe_box rfl (wants_all rfl) rfl (opnd_slot 0 0 rfl (by kernel_rfl)) rfl (fun ρ w h => bx1_mat ρ _ _ w (cel_ar _ _ h))
    · exact owe_box rfl (wants_all rfl) rfl (opnd_slot 1 1 rfl (by kernel_rfl)) rfl (fun ρ w h => bx1_mat ρ _ _ w (cel_ar _ _ h))
    · exact owe_move rfl (wants_all rfl) (Or.inr rfl) (opnd_const _) rfl
    · exact owe_move rfl (wants_all rfl) (Or.inr rfl) (opnd_const _) rfl
  intro B1 a1 W1 S1
  replace S1 : Sta w 43 [(2, (.box 22 (Mv n A k))), (3, (.box 22 (Mv m B k')))] [(4, (Is (.slice none 0 0))), (5, (Is (.int .i64 0)))] B1 a1 W1 := S1
  refine wp_stmt_seq [.val (Mv n A k),
      .val ((THREE (IS (.int .i64 (n : Nat))) (IS (.int .i64 (y : Nat))) (IS (.int .i64 0))) w.heap.size),
      .val ((THREE (IS (.int .i64 (n : Nat))) (IS (.int .i64 (y : Nat))) (IS (.int .i64 0))) w.heap.size),
      .val (Is (.int .i64 (n : Nat))),
      .val (Is (.int .i64 (y : Nat))),
      .val (Is (.int .i64 0)),
      .val (Is (.int .i64 (n : Nat))),
      .val (Is (.int .i64 (y : Nat))),
      .val (Is (.int .i64 0))] [.inr 0, .inr 1] [.inl 6, .inl 7, .inl 8, .inr 0, .inr 1] follows S1 rfl (by kernel_rfl) ?_ ?_
  · refine ⟨⟨⟨⟨⟨⟨⟨⟨⟨trivial, ?_⟩, ?_⟩, ?_⟩, ?_⟩, ?_⟩, ?_⟩, ?_⟩, ?_⟩, ?_⟩
    · exact owe_load rfl (wants_all rfl) rfl (k := 0) rfl (by kernel_rfl) (loads_ldr ldr_mat1 cel_ar) rfl
    · exact owe_callh1 rfl (wants_all rfl) rfl (opnd_op 0 13 (by kernel_rfl) rfl) (fresh_three (fresh_is _) (fresh_is _) (fresh_is _)) rfl (fun args w => by go_simp) (fun w u h => h_shape_y w u n _ y _ h (by omega) hRA h0A)
    · exact owe_move rfl (wants_all rfl) (Or.inl rfl) (opnd_op 1 14 (by kernel_rfl) rfl) rfl
    · exact owe_ext3 rfl (wants_all rfl) rfl (opnd_op 2 12 (by kernel_rfl) rfl) (Or.inl ⟨rfl, rfl⟩) rfl
    · exact owe_ext3 rfl (wants_all rfl) rfl (opnd_op 2 12 (by kernel_rfl) rfl) (Or.inr (Or.inl ⟨rfl, rfl⟩)) rfl
    · exact owe_ext3 rfl (wants_all rfl) rfl (opnd_op 2 12 (by kernel_rfl) rfl) (Or.inr (Or.inr ⟨rfl, rfl⟩)) rfl
    · exact owe_move rfl (wants_all rfl) (Or.inr rfl) (opnd_op 3 15 (by kernel_rfl) rfl) rfl
    · exact owe_move rfl (wants_all rfl) (Or.inr rfl) (opnd_op 4 16 (by kernel_rfl) rfl) rfl
    · exact owe_move rfl (wants_all rfl) (Or.inr rfl) (opnd_op 5 17 (by kernel_rfl) rfl) rfl
  intro B2 a2 W2 S2
  replace S2 : Sta w 43 [(2, (.box 22 (Mv n A k))), (3, (.box 22 (Mv m B k')))] [(6, (Is (.int .i64 (n : Nat)))), (7, (Is (.int .i64 (y : Nat)))), (8, (Is (.int .i64 0))), (4, (Is (.slice none 0 0))), (5, (Is (.int .i64 0)))] B2 a2 W2 := S2
  refine wp_stmt_seq [.val (Mv m B k'),
      .val ((THREE (IS (.int .i64 0)) (IS (.int .i64 0)) (IS (.int .i64 8))) w.heap.size),
      .val ((THREE (IS (.int .i64 0)) (IS (.int .i64 0)) (IS (.int .i64 8))) w.heap.size),
      .val (Is (.int .i64 0)),
      .val (Is (.int .i64 0)),
      .val (Is (.int .i64 8)),
      .val (Is (.int .i64 0)),
      .val (Is (.int .i64 0)),
      .val (Is (.int .i64 8))] [.inr 0, .inr 1] [.inl 6, .inl 7, .inl 8, .inr 0, .inr 1, .inr 2, .inr 3, .inr 4] follows S2 rfl (by kernel_rfl) ?_ ?_
  · refine ⟨⟨⟨⟨⟨⟨⟨⟨⟨trivial, ?_⟩, ?_⟩, ?_⟩, ?_⟩, ?_⟩, ?_⟩, ?_⟩, ?_⟩, ?_⟩
    · exact owe_load rfl (wants_all rfl) rfl (k := 1) rfl (by kernel_rfl) (loads_ldr ldr_mat1 cel_ar) rfl
    · exact owe_callh1 rfl (wants_all rfl) rfl (opnd_op 0 19 (by kernel_rfl) rfl) (fresh_three (fresh_is _) (fresh_is _) (fresh_is _)) rfl (fun args w => by go_simp) (fun w u h => h_shape_n w u m _ _ h (by omega) hR)
    · exact owe_move rfl (wants_all rfl) (Or.inl rfl) (opnd_op 1 20 (by kernel_rfl) rfl) rfl
    · exact owe_ext3 rfl (wants_all rfl) rfl (opnd_op 2 18 (by kernel_rfl) rfl) (Or.inl ⟨rfl, rfl⟩) rfl
    · exact owe_ext3 rfl (wants_all rfl) rfl (opnd_op 2 18 (by kernel_rfl) rfl) (Or.inr (Or.inl ⟨rfl, rfl⟩)) rfl
    · exact owe_ext3 rfl (wants_all rfl) rfl (opnd_op 2 18 (by kernel_rfl) rfl) (Or.inr (Or.inr ⟨rfl, rfl⟩)) rfl
    · exact owe_move rfl (wants_all rfl) (Or.inr rfl) (opnd_op 3 21 (by kernel_rfl) rfl) rfl
    · exact owe_move rfl (wants_all rfl) (Or.inr rfl) (opnd_op 4 22 (by kernel_rfl) rfl) rfl
    · exact owe_move rfl (wants_all rfl) (Or.inr rfl) (opnd_op 5 23 (by kernel_rfl) rfl) rfl
  intro B3 a3 W3 S3
  replace S3 : Sta w 43 [(2, (.box 22 (Mv n A k))), (3, (.box 22 (Mv m B k')))] [(9, (Is (.int .i64 0))), (10, (Is (.int .i64 0))), (11, (Is (.int .i64 8))), (6, (Is (.int .i64 (n : Nat)))), (7, (Is (.int .i64 (y : Nat)))), (8, (Is (.int .i64 0))), (4, (Is (.slice none 0 0))), (5, (Is (.int .i64 0)))] B3 a3 W3 := S3
  refine wp_seq ?_
  refine wp_stmt_seq [.val (Is (.int .i64 0)),
      .val (Is (.bool false)),
      .val (Is (.bool false)),
      .val (Is (.int .i64 8)),
      .val (Is (.bool true)),
      .val (Is (.bool true)),
      .val (Is (.bool true)),
      .off,
      .off,
      .val (Is (undef)),
      .off,
      .off,
      .off,
      .off,
      .val (Is (.bool true))] [.inr 0, .inr 1] [.inl 14, .inr 1, .inr 3, .inr 6, .inr 7] follows S3 rfl (by kernel_rfl) ?_ ?_
  · refine ⟨⟨⟨⟨⟨⟨⟨⟨⟨⟨⟨⟨⟨⟨⟨trivial, ?_⟩, ?_⟩, ?_⟩, ?_⟩, ?_⟩, ?_⟩, ?_⟩, ?_⟩, ?_⟩, ?_⟩, ?_⟩, ?_⟩, ?_⟩, ?_⟩, ?_⟩
    · exact owe_move rfl (wants_all rfl) (Or.inl rfl) (opnd_slot 5 8 rfl (by kernel_rfl)) rfl
    · exact owe_bin rfl (wants_all rfl) rfl (opnd_op 0 24 (by kernel_rfl) rfl) (opnd_const _) rfl (fun ρ w h1 h2 => by exact run_neq_errno_f ρ _ _ _ w _ _ (by omega) h1 h2)
    · exact owe_move rfl (wants_all rfl) (Or.inl rfl) (opnd_op 1 25 (by kernel_rfl) rfl) rfl
    · exact owe_move rfl (wants_if 2 26 rfl (by kernel_rfl) rfl) (Or.inl rfl) (opnd_slot 2 11 rfl (by kernel_rfl)) rfl
    · exact owe_bin rfl (wants_if 2 26 rfl (by kernel_rfl) rfl) rfl (opnd_op 3 27 (by kernel_rfl) rfl) (opnd_const _) rfl (fun ρ w h1 h2 => by exact run_neq_errno_t ρ _ _ _ w _ _ (by omega) h1 h2)
    · exact owe_pick rfl (wants_all rfl) rfl (opnd_op 2 26 (by kernel_rfl) rfl) (fun h => nomatch h) (fun _ => (opnd_op 4 28 (by kernel_rfl) rfl)) rfl
    · exact owe_move rfl (wants_all rfl) (Or.inl rfl) (opnd_op 5 29 (by kernel_rfl) rfl) rfl
    · exact owe_off 6 30 rfl rfl rfl (by kernel_rfl) rfl (by decide)
    · exact owe_off 6 30 rfl rfl rfl (by kernel_rfl) rfl (by decide)
    · exact owe_offv 6 30 rfl rfl rfl (by kernel_rfl) rfl (by decide)
    · exact owe_offu 9 33 rfl rfl rfl (by kernel_rfl) rfl
    · exact owe_offu 9 33 rfl rfl rfl (by kernel_rfl) rfl
    · exact owe_offu 9 33 rfl rfl rfl (by kernel_rfl) rfl
    · exact owe_off 6 30 rfl rfl rfl (by kernel_rfl) rfl (by decide)
    · exact owe_pick rfl (wants_all rfl) rfl (opnd_op 6 30 (by kernel_rfl) rfl) (fun _ => (opnd_const _)) (fun h => nomatch h) rfl
  intro B4 a4 W4 S4
  replace S4 : Sta w 43 [(2, (.box 22 (Mv n A k))), (3, (.box 22 (Mv m B k')))] [(38, (Is (.bool true))), (10, (Is (.int .i64 0))), (6, (Is (.int .i64 (n : Nat)))), (4, (Is (.slice none 0 0))), (5, (Is (.int .i64 0)))] B4 a4 W4 := S4
  refine wp_cond_true (S4.bool 0 38 rfl) ?_
  refine wp_stmt_seq [.val (Is (.slice none 0 0)),
      .val (Is (.int .i64 8))] [.inr 0, .inr 1] [.inl 0, .inl 1, .inr 0, .inr 1, .inr 2] follows S4 rfl (by kernel_rfl) ?_ ?_
  · refine ⟨⟨trivial, ?_⟩, ?_⟩
    · exact owe_move rfl (wants_all rfl) (Or.inr rfl) (opnd_const _) rfl
    · exact owe_move rfl (wants_all rfl) (Or.inr rfl) (opnd_const _) rfl
  intro B5 a5 W5 S5
  replace S5 : Sta w 43 [(2, (.box 22 (Mv n A k))), (3, (.box 22 (Mv m B k')))] [(4, (Is (.slice none 0 0))), (5, (Is (.int .i64 8))), (38, (Is (.bool true))), (10, (Is (.int .i64 0))), (6, (Is (.int .i64 (n : Nat))))] B5 a5 W5 := S5
  refine wp_ret ?_
  refine thenR ?_
  exact end_two S5 rfl (res_tmp S5 0 4 rfl) (res_tmp S5 1 5 rfl)

set_option maxHeartbeats 400000 in
theorem prod_m (w : World) (u v : Value) (n m k k' : Nat) (A B : List (List Int)) (h : Hs w (Mv n A k) u) (h' : Hs w (Mv m B k') v) (hn : n ≤ 1048576) (hm : m ≤ 1048576) (y : Nat) (hRA : Reg A y) (h0A : n = 0 → y = 0) (x : Nat) (hR : Reg B x) (h0 : m = 0 → x = 0) (hp : 0 < n) (hym : y ≠ m) :
    Calls Tryd.prog 13 #[u, v] w (Gives (TWO (IS (.slice none 0 0)) (IS (.int .i64 8))) w) := by
  refine calls_sta (sl := [(0, (Mv n A k)), (1, (Mv m B k'))]) Tryd.func13 rfl Tryd.ntmps13 (by simp) (args_cons rfl (h) (args_cons rfl (h') args_nil)) ?_
  intro a0 S0
  refine wp_stmt_seq [.new (.box 22 (Mv n A k)),
      .new (.box 22 (Mv m B k')),
      .val (Is (.slice none 0 0)),
      .val (Is (.int .i64 0))] [.inl 0, .inl 1] [.inl 2, .inl 3] follows S0 rfl (by kernel_rfl) ?_ ?_
  · refine ⟨⟨⟨⟨trivial, ?_⟩, ?_⟩, ?_⟩, ?_⟩
    · exact owe_box rfl (wants_all rfl) rfl (opnd_slot 0 0 rfl (by kernel_rfl)) rfl (fun ρ w h => bx1_mat ρ _ _ w (cel_ar _ _ h))
    · exact owe_box rfl (wants_all rfl) rfl (opnd_slot 1 1 rfl (by kernel_rfl)) rfl (fun ρ w h => bx1_mat ρ _ _ w (cel_ar _ _ h))
    · exact owe_move rfl (wants_all rfl) (Or.inr rfl) (opnd_const _) rfl
    · exact owe_move rfl (wants_all rfl) (Or.inr rfl) (opnd_const _) rfl
  intro B1 a1 W1 S1
  replace S1 : Sta w 43 [(2, (.box 22 (Mv n A k))), (3, (.box 22 (Mv m B k')))] [(4, (Is (.slice none 0 0))), (5, (Is (.int .i64 0)))] B1 a1 W1 := S1
  refine wp_stmt_seq [.val (Mv n A k),
      .val ((THREE (IS (.int .i64 (n : Nat))) (IS (.int .i64 (y : Nat))) (IS (.int .i64 0))) w.heap.size),
      .val ((THREE (IS (.int .i64 (n : Nat))) (IS (.int .i64 (y : Nat))) (IS (.int .i64 0))) w.heap.size),
      .val (Is (.int .i64 (n : Nat))),
      .val (Is (.int .i64 (y : Nat))),
      .val (Is (.int .i64 0)),
      .val (Is (.int .i64 (n : Nat))),
      .val (Is (.int .i64 (y : Nat))),
      .val (Is (.int .i64 0))] [.inr 0, .inr 1] [.inl 6, .inl 7, .inl 8, .inr 0, .inr 1] follows S1 rfl (by kernel_rfl) ?_ ?_
  · refine ⟨⟨⟨⟨⟨⟨⟨⟨⟨trivial, ?_⟩, ?_⟩, ?_⟩, ?_⟩, ?_⟩, ?_⟩, ?_⟩, ?_⟩, ?_⟩
    · exact owe_load rfl (wants_all rfl) rfl (k := 0) rfl (by kernel_rfl) (loads_ldr ldr_mat1 cel_ar) rfl
    · exact owe_callh1 rfl (wants_all rfl) rfl (opnd_op 0 13 (by kernel_rfl) rfl) (fresh_three (fresh_is _) (fresh_is _) (fresh_is _)) rfl (fun args w => by go_simp) (fun w u h => h_shape_y w u n _ y _ h (by omega) hRA h0A)
    · exact owe_move rfl (wants_all rfl) (Or.inl rfl) (opnd_op 1 14 (by kernel_rfl) rfl) rfl
    · exact owe_ext3 rfl (wants_all rfl) rfl (opnd_op 2 12 (by kernel_rfl) rfl) (Or.inl ⟨rfl, rfl⟩) rfl
    · exact owe_ext3 rfl (wants_all rfl) rfl (opnd_op 2 12 (by kernel_rfl) rfl) (Or.inr (Or.inl ⟨rfl, rfl⟩)) rfl
    · exact owe_ext3 rfl (wants_all rfl) rfl (opnd_op 2 12 (by kernel_rfl) rfl) (Or.inr (Or.inr ⟨rfl, rfl⟩)) rfl
    · exact owe_move rfl (wants_all rfl) (Or.inr rfl) (opnd_op 3 15 (by kernel_rfl) rfl) rfl
    · exact owe_move rfl (wants_all rfl) (Or.inr rfl) (opnd_op 4 16 (by kernel_rfl) rfl) rfl
    · exact owe_move rfl (wants_all rfl) (Or.inr rfl) (opnd_op 5 17 (by kernel_rfl) rfl) rfl
  intro B2 a2 W2 S2
  replace S2 : Sta w 43 [(2, (.box 22 (Mv n A k))), (3, (.box 22 (Mv m B k')))] [(6, (Is (.int .i64 (n : Nat)))), (7, (Is (.int .i64 (y : Nat)))), (8, (Is (.int .i64 0))), (4, (Is (.slice none 0 0))), (5, (Is (.int .i64 0)))] B2 a2 W2 := S2
  refine wp_stmt_seq [.val (Mv m B k'),
      .val ((THREE (IS (.int .i64 (m : Nat))) (IS (.int .i64 (x : Nat))) (IS (.int .i64 0))) w.heap.size),
      .val ((THREE (IS (.int .i64 (m : Nat))) (IS (.int .i64 (x : Nat))) (IS (.int .i64 0))) w.heap.size),
      .val (Is (.int .i64 (m : Nat))),
      .val (Is (.int .i64 (x : Nat))),
      .val (Is (.int .i64 0)),
      .val (Is (.int .i64 (m : Nat))),
      .val (Is (.int .i64 (x : Nat))),
      .val (Is (.int .i64 0))] [.inr 0, .inr 1] [.inl 6, .inl 7, .inl 8, .inr 0, .inr 1, .inr 2, .inr 3, .inr 4] follows S2 rfl (by kernel_rfl) ?_ ?_
  · refine ⟨⟨⟨⟨⟨⟨⟨⟨⟨trivial, ?_⟩, ?_⟩, ?_⟩, ?_⟩, ?_⟩, ?_⟩, ?_⟩, ?_⟩, ?_⟩
    · exact owe_load rfl (wants_all rfl) rfl (k := 1) rfl (by kernel_rfl) (loads_ldr ldr_mat1 cel_ar) rfl
    · exact owe_callh1 rfl (wants_all rfl) rfl (opnd_op 0 19 (by kernel_rfl) rfl) (fresh_three (fresh_is _) (fresh_is _) (fresh_is _)) rfl (fun args w => by go_simp) (fun w u h => h_shape_y w u m _ x _ h (by omega) hR h0)
    · exact owe_move rfl (wants_all rfl) (Or.inl rfl) (opnd_op 1 20 (by kernel_rfl) rfl) rfl
    · exact owe_ext3 rfl (wants_all rfl) rfl (opnd_op 2 18 (by kernel_rfl) rfl) (Or.inl ⟨rfl, rfl⟩) rfl
    · exact owe_ext3 rfl (wants_all rfl) rfl (opnd_op 2 18 (by kernel_rfl) rfl) (Or.inr (Or.inl ⟨rfl, rfl⟩)) rfl
    · exact owe_ext3 rfl (wants_all rfl) rfl (opnd_op 2 18 (by kernel_rfl) rfl) (Or.inr (Or.inr ⟨rfl, rfl⟩)) rfl
    · exact owe_move rfl (wants_all rfl) (Or.inr rfl) (opnd_op 3 21 (by kernel_rfl) rfl) rfl
    · exact owe_move rfl (wants_all rfl) (Or.inr rfl) (opnd_op 4 22 (by kernel_rfl) rfl) rfl
    · exact owe_move rfl (wants_all rfl) (Or.inr rfl) (opnd_op 5 23 (by kernel_rfl) rfl) rfl
  intro B3 a3 W3 S3
  replace S3 : Sta w 43 [(2, (.box 22 (Mv n A k))), (3, (.box 22 (Mv m B k')))] [(9, (Is (.int .i64 (m : Nat)))), (10, (Is (.int .i64 (x : Nat)))), (11, (Is (.int .i64 0))), (6, (Is (.int .i64 (n : Nat)))), (7, (Is (.int .i64 (y : Nat)))), (8, (Is (.int .i64 0))), (4, (Is (.slice none 0 0))), (5, (Is (.int .i64 0)))] B3 a3 W3 := S3
  refine wp_seq ?_
  refine wp_stmt_seq [.val (Is (.int .i64 0)),
      .val (Is (.bool false)),
      .val (Is (.bool false)),
      .val (Is (.int .i64 0)),
      .val (Is (.bool false)),
      .val (Is (.bool false)),
      .val (Is (.bool false)),
      .val (Is (.int .i64 (n : Nat))),
      .val (Is (.bool true)),
      .val (Is (.bool true)),
      .val (Is (.int .i64 (y : Nat))),
      .val (Is (.int .i64 (m : Nat))),
      .val (Is (.bool true)),
      .val (Is (.bool true)),
      .val (Is (.bool true))] [.inr 0, .inr 1] [.inl 14, .inr 1, .inr 3, .inr 6, .inr 7] follows S3 rfl (by kernel_rfl) ?_ ?_
  · refine ⟨⟨⟨⟨⟨⟨⟨⟨⟨⟨⟨⟨⟨⟨⟨trivial, ?_⟩, ?_⟩, ?_⟩, ?_⟩, ?_⟩, ?_⟩, ?_⟩, ?_⟩, ?_⟩, ?_⟩, ?_⟩, ?_⟩, ?_⟩, ?_⟩, ?_⟩
    · exact owe_move rfl (wants_all rfl) (Or.inl rfl) (opnd_slot 5 8 rfl (by kernel_rfl)) rfl
    · exact owe_bin rfl (wants_all rfl) rfl (opnd_op 0 24 (by kernel_rfl) rfl) (opnd_const _) rfl (fun ρ w h1 h2 => by exact run_neq_errno_f ρ _ _ _ w _ _ (by omega) h1 h2)
    · exact owe_move rfl (wants_all rfl) (Or.inl rfl) (opnd_op 1 25 (by kernel_rfl) rfl) rfl
    · exact owe_move rfl (wants_if 2 26 rfl (by kernel_rfl) rfl) (Or.inl rfl) (opnd_slot 2 11 rfl (by kernel_rfl)) rfl
    · exact owe_bin rfl (wants_if 2 26 rfl (by kernel_rfl) rfl) rfl (opnd_op 3 27 (by kernel_rfl) rfl) (opnd_const _) rfl (fun ρ w h1 h2 => by exact run_neq_errno_f ρ _ _ _ w _ _ (by omega) h1 h2)
    · exact owe_pick rfl (wants_all rfl) rfl (opnd_op 2 26 (by kernel_rfl) rfl) (fun h => nomatch h) (fun _ => (opnd_op 4 28 (by kernel_rfl) rfl)) rfl
    · exact owe_move rfl (wants_all rfl) (Or.inl rfl) (opnd_op 5 29 (by kernel_rfl) rfl) rfl
    · exact owe_move rfl (wants_if 6 30 rfl (by kernel_rfl) rfl) (Or.inl rfl) (opnd_slot 3 6 rfl (by kernel_rfl)) rfl
    · exact owe_bin rfl (wants_if 6 30 rfl (by kernel_rfl) rfl) rfl (opnd_op 7 31 (by kernel_rfl) rfl) (opnd_const _) rfl (fun ρ w h1 h2 => by exact run_gtr_int_t ρ _ _ _ w _ _ (by omega) h1 h2)
    · exact owe_move rfl (wants_if 6 30 rfl (by kernel_rfl) rfl) (Or.inl rfl) (opnd_op 8 32 (by kernel_rfl) rfl) rfl
    · exact owe_move rfl (wants_if 9 33 rfl (by kernel_rfl) rfl) (Or.inl rfl) (opnd_slot 4 7 rfl (by kernel_rfl)) rfl
    · exact owe_move rfl (wants_if 9 33 rfl (by kernel_rfl) rfl) (Or.inl rfl) (opnd_slot 0 9 rfl (by kernel_rfl)) rfl
    · exact owe_bin rfl (wants_if 9 33 rfl (by kernel_rfl) rfl) rfl (opnd_op 10 34 (by kernel_rfl) rfl) (opnd_op 11 35 (by kernel_rfl) rfl) rfl (fun ρ w h1 h2 => by exact run_neq_int_t ρ _ _ _ w _ _ (by omega) h1 h2)
    · exact owe_pick rfl (wants_if 6 30 rfl (by kernel_rfl) rfl) rfl (opnd_op 9 33 (by kernel_rfl) rfl) (fun _ => (opnd_op 12 36 (by kernel_rfl) rfl)) (fun h => nomatch h) rfl
    · exact owe_pick rfl (wants_all rfl) rfl (opnd_op 6 30 (by kernel_rfl) rfl) (fun h => nomatch h) (fun _ => (opnd_op 13 37 (by kernel_rfl) rfl)) rfl
  intro B4 a4 W4 S4
  replace S4 : Sta w 43 [(2, (.box 22 (Mv n A k))), (3, (.box 22 (Mv m B k')))] [(38, (Is (.bool true))), (10, (Is (.int .i64 (x : Nat)))), (6, (Is (.int .i64 (n : Nat)))), (4, (Is (.slice none 0 0))), (5, (Is (.int .i64 0)))] B4 a4 W4 := S4
  refine wp_cond_true (S4.bool 0 38 rfl) ?_
  refine wp_stmt_seq [.val (Is (.slice none 0 0)),
      .val (Is (.int .i64 8))] [.inr 0, .inr 1] [.inl 0, .inl 1, .inr 0, .inr 1, .inr 2] follows S4 rfl (by kernel_rfl) ?_ ?_
  · refine ⟨⟨trivial, ?_⟩, ?_⟩
    · exact owe_move rfl (wants_all rfl) (Or.inr rfl) (opnd_const _) rfl
    · exact owe_move rfl (wants_all rfl) (Or.inr rfl) (opnd_const _) rfl
  intro B5 a5 W5 S5
  replace S5 : Sta w 43 [(2, (.box 22 (Mv n A k))), (3, (.box 22 (Mv m B k')))] [(4, (Is (.slice none 0 0))), (5, (Is (.int .i64 8))), (38, (Is (.bool true))), (10, (Is (.int .i64 (x : Nat)))), (6, (Is (.int .i64 (n : Nat))))] B5 a5 W5 := S5
  refine wp_ret ?_
  refine thenR ?_
  exact end_two S5 rfl (res_tmp S5 0 4 rfl) (res_tmp S5 1 5 rfl)

def okP (A B : List (List Int)) : Bool := reg A && (reg B && (A.length == 0 || wd A == B.length))
def prodE (A B : List (List Int)) : List (List Int) := if okP A B then A.map (fun r => combZ r B (wd B)) else []
def prodN (A B : List (List Int)) : Nat := if okP A B then A.length else 0

theorem h_prod (w : World) (u v : Value) (n m k k' : Nat) (A B : List (List Int)) (h : Hs w (Mv n A k) u) (h' : Hs w (Mv m B k') v) (hn : n ≤ 1048576) (hm : m ≤ 1048576) (hs : k + k' ≤ 1073741824) (hL : Ml B 1048576) : Calls Tryd.prog 13 #[u, v] w (Gives (TWO (MN (prodN A B) (prodE A B)) (IS (.int .i64 (errB (okP A B))))) w) := by
  have hA := mv_len h.now
  have hB := mv_len h'.now
  have no : okP A B = false → Calls Tryd.prog 13 #[u, v] w (Gives (TWO (IS (.slice none 0 0)) (IS (.int .i64 8))) w) → Calls Tryd.prog 13 #[u, v] w (Gives (TWO (MN (prodN A B) (prodE A B)) (IS (.int .i64 (errB (okP A B))))) w) := fun ho hc => by
    simp only [prodN, prodE, errB, ho, Bool.false_eq_true, if_false]
    exact give_two hc nil_mn' (fun _ _ _ h => h)
  by_cases ea : reg A = true
  · have hRA := reg_y ea
    have h0A : n = 0 → wd A = 0 := fun h => wd_zero (by omega)
    by_cases eb : reg B = true
    · have hR := reg_y eb
      have h0 : m = 0 → wd B = 0 := fun h => wd_zero (by omega)
      rcases Nat.eq_zero_or_pos n with e | e
      · have ho : okP A B = true := by simp [okP, ea, eb, hA, e]
        simp only [prodN, prodE, errB, ho, if_true, hA]
        rw [← grid_prod hA]
        exact prod_0 w u v n m k k' A B h h' hn hm (wd A) hRA h0A (wd B) hR h0 (ml_wd hL) hs (by omega)
      · by_cases e2 : wd A = m
        · have ho : okP A B = true := by simp [okP, ea, eb, hA, hB, e2]
          simp only [prodN, prodE, errB, ho, if_true, hA]
          rw [← grid_prod hA]
          exact prod_y w u v n m k k' A B h h' hn hm (wd A) hRA h0A (wd B) hR h0 (ml_wd hL) hs e e2
        · exact no (by simp [okP, ea, eb, hA, hB, e2]; intro hh; rw [hh] at hA; simp at hA; omega) (prod_m w u v n m k k' A B h h' hn hm (wd A) hRA h0A (wd B) hR h0 e e2)
    · exact no (by simp [okP, eb]) (prod_b w u v n m k k' A B h h' hn hm (wd A) hRA h0A eb)
  · by_cases eb : reg B = true
    · exact no (by simp [okP, ea]) (prod_a w u v n m k k' A B h h' hn hm (wd B) (reg_y eb) (fun h => wd_zero (by omega)) ea)
    · exact no (by simp [okP, ea]) (prod_a2 w u v n m k k' A B h h' hn hm ea eb)

end Go.Proofs.YtdhjgekbocnnkaaDoor
