import Derived.Test.YtddjoigjdolafaaGreatVcA
import Derived.Test.YtddjoigjdolafaaGreatGsD
import Derived.Test.YtddjoigjdolafaaGreatHxA
import Derived.Test.YtddjoigjdolafaaGreatFiC
/-
 Lists of rationals, and lists of such lists: read, made, grown.
-/
namespace Go.Proofs.YtddjoigjdolafaaGreat
open Go Go.RowKit Nt
set_option linter.unusedSimpArgs false
set_option linter.unusedVariables false
set_option maxRecDepth 20000

theorem idx_rats : Idx 53 4 := fun ρ o x y w b k i n c hi hx hy => by
  unfold execOp
  go_simp
theorem ldr_rat4 : Ldr 43 4 := ldr_strct (by decide) strct_rat
theorem idx_qrows : Idx 52 1 := fun ρ o x y w b k i n c hi hx hy => by
  rw [Nat.one_mul]
  unfold execOp
  go_simp
theorem ldr_qrow1 : Ldr 53 1 := fun ρ o x w b k u hu hc hx => by
  obtain ⟨e, h1⟩ := celv1 hu
  have h2 : w.cell? ⟨b, k, none⟩ = some u := hc 0 u (by rw [e]; rfl)
  clear hc hu e
  unfold execOp
  go_simp
theorem bld_rat4 : Bld 53 43 4 := fun ρ o x w u hu hx => by
  have e := hu.of
  rw [ofCells, if_neg (by decide)] at e
  obtain ⟨l, hl⟩ : ∃ l, u.cells = ⟨l⟩ := ⟨u.cells.toList, by simp⟩
  have hs := hu.siz
  have ho := hu.one
  rw [hl] at e hs ho ⊢
  match l, hs with
  | [y, z, y', z'], _ =>
    clear hu hl
    subst e
    simp at ho
    obtain ⟨h1, h2, h3, h4⟩ := ho
    unfold execOp
    go_simp
theorem bld_qrow1 : Bld 52 53 1 := fun ρ o x w u hu hx => by
  obtain ⟨e, h1⟩ := celv1 hu
  rw [e]
  clear hu e
  cases u <;> first | (simp [Value.oneCell'] at h1; done) | (unfold execOp; go_simp; done) | (unfold execOp; go_simp; simp [run_store, Value.oneCell']; done)
theorem infoRat : (Tryz.prog.info? 43).map (fun i => (i.zero, i.size, i.bytes)) = some (some (.agg #[.bool false, .slice none 0 0, .bool false, .slice none 0 0]), 4, 64) := by kernel_rfl
theorem einf_rat4 : EInf 43 4 64 := by
 obtain ⟨i0, hi, hz0, hz1, hz2⟩ := info_parts infoRat
 exact ⟨⟨i0, _, hi, hz0, hz1, hz2, rfl⟩, by decide⟩
theorem infoQRow : (Tryz.prog.info? 53).map (fun i => (i.zero, i.size, i.bytes)) = some (some (.slice none 0 0), 1, 24) := by kernel_rfl
theorem einf_qrow1 : EInf 53 1 24 := by
 obtain ⟨i0, hi, hz0, hz1, hz2⟩ := info_parts infoQRow
 exact ⟨⟨i0, _, hi, hz0, hz1, hz2, rfl⟩, by decide⟩
end Go.Proofs.YtddjoigjdolafaaGreat

/-
 Rows known by their handles that grow; structs of lists of rationals.
-/
namespace Go.Proofs.YtddjoigjdolafaaGreat
open Go Go.RowKit Nt
set_option linter.unusedSimpArgs false
set_option linter.unusedVariables false
set_option maxRecDepth 20000

theorem Sta.tellNilW {w0 W : World} {n : Nat} {bx : Bxs} {sl : List (Tmp × Pr)} {B : Nat → Prop} {a : Act} (S : Sta w0 n bx sl B a W) (G e size : Nat)  : Sta w0 n ((G, RW w0.heap.size (.slice none 0 0) e size 0 []) :: bx) sl B a W := by
 refine ⟨S.ent, S.bnd, S.siz, S.dfr, fun x hx => ?_, fun x hx y hy b hbx hby => ?_, S.slt⟩
 ·rcases List.mem_cons.1 hx with rfl | hx
  ·exact rw_of (World.ownsRow_nil _ _ _ _) (fun b hb => by cases hb) (fun w' _ => ce_nil w')
  ·exact S.box x hx
 ·rcases List.mem_cons.1 hx with rfl | hx <;> rcases List.mem_cons.1 hy with rfl | hy
  ·rfl
  ·cases hbx
  ·cases hby
  ·exact S.sep x hx y hy b hbx hby
section
variable {ops : Array Oper} {l : List Kd} {bx : Bxs} {sl : List (Tmp × Pr)} {i : Nat} {o : Oper} {Q : Exit → Act → World → Prop} {a0 : Act} {n0 : Nat} {w0 : World}
theorem owe_appendW {x y : Operand} {T t k e size bytes n m : Nat} {hv : Value} {φs : List Pr} {χ2 χ3 : List Value → World → Prop} (ho : ops[i]? = some o) (hw : Wants ops l bx sl i o) (hop : o.op = .call { callee := .builtin .append, args := #[x, y], argTypes := #[T, T] })
  (hx : Opnd ops l bx sl i x (Is hv)) (hb : bx[k]? = some (t, RW w0.heap.size hv e size n φs)) (hn : unturned ops l i (.inl t) = true) (hy : Opnd ops l bx sl i y (Src e size m χ2)) (hE : EInf e size bytes) (hT : Tryz.prog.underlying T = some (.slice e)) (hm : 0 < m * size)
  (hl : n + m ≤ maxLen ∧ (n + m) * bytes ≤ 140737488355328) (hk : kdAt l i = .mov t (.row e size (n + m) χ3)) (h3 : ∀ xs ys w, CE size φs xs w → χ2 ys w → χ3 (xs ++ ys) w) : Owed Tryz.prog ops Q l bx sl a0 n0 w0 i := fun vs B a w c o' ho' => by
 obtain rfl : o = o' := Option.some.inj (ho.symm.trans ho')
 have hxv : a.eval x = hv := (hx a0 n0 w0 vs B a w c).now
 have hmem := List.mem_of_getElem? hb
 obtain ⟨xs, hown, hB, hχ⟩ := rw_own (c.box t _ hmem hn)
 obtain ⟨g, c', ys, e1, e2, e3, e4, hχ2⟩ := src_fix hm (hy a0 n0 w0 vs B a w c)
 have hnews : ∀ j u, ys[j]? = some u → w.cell? ((⟨g, 0, none⟩ : Addr).add j) = some u := fun j u hu => by
  rw [addr_add]
  simp only [World.cell?, e3, Nat.zero_add]
  simpa using hu
 have hlo : w0.heap.size ≤ w.heap.size := c.lo
 obtain ⟨⟨i0, z, hi, hz, hsz, hby, hzs⟩, hpos⟩ := id hE
 obtain ⟨v', w', hr, o1, o2, _⟩ := run_append_own (P := Tryz.prog) w w0.heap.size T o.type e i0 z size bytes hT hi hz hsz hby hzs hpos _ n xs hown ⟨g, 0, none⟩ m c' ys e2.1 hnews e4 hl.1 hl.2 hlo
 have hwh := append_where hE hT hown e2.1 hnews e4 hl.1 hl.2 hr o1
 have hvb : vblock hv = hv.ownBlock := vblock_own _ (fun ad ea => by
  rcases hown.2 with ⟨e', _⟩ | ⟨g', cap, cur, e', _⟩ <;> rw [e'] at ea <;> cases ea)
 have hc := chg_grown o2 hvb
 simp only [wpOp, ho]
 rw [if_pos (hw a0 n0 w0 vs B a w c)]
 refine Or.inl ?_
 unfold Oper.wp
 have h : (execOp a.eval o).run Tryz.prog w = .ok (.value v') w' := by
  unfold execOp
  rw [hop]
  simp only [resolve, invoke, builtin, Sem.run_bind, Sem.run_pure, Result.andThen_ok, List.map_toArray, List.map_cons, List.map_nil, hxv, e1, hr]
 rw [h, Oper.upon_value]
 refine ⟨v', rfl, ?_⟩
 rw [hk]
 have ev : Ev B w w' := ⟨hc.os, hc.tape, hc.output, hc.size, fun k hk' hn' => hc.block k hk' (fun hs => hn' (hB k hs))⟩
 have hid : ∀ b, vblock hv = some b → idset l bx a0 vs (.inl t) b := fun b hb' => ⟨_, hmem, hb'⟩
 have hsub : ∀ k, k < w.heap.size → (B k ∨ vblock v' = some k) → B k := fun k hk' h' => by
  rcases h' with h' | h'
  ·exact h'
  ·rcases hwh k h' with h' | h'
   ·exact hB k h'
   ·omega
 refine ⟨⟨hc.os, hc.tape, hc.output, hc.size, fun k hk' hn' => hc.block k hk' (fun hs => hn' (hid k hs))⟩, fun b hb' => (hwh b hb').imp (hid b) id, xs ++ ys, o1, fun b hb' => Or.inr hb', fun w'' ev'' => h3 _ _ _ (hχ w'' (ev.back hsub ev'')) (hχ2 w'' (ev.back hsub ev''))⟩
end
theorem load1_qvec : Load1 53 := fun ρ w o x b f u hx hc => by
  unfold execOp
  go_simp
theorem load1_qmat : Load1 52 := fun ρ w o x b f u hx hc => by
  unfold execOp
  go_simp
theorem store1_qvec : Store1 53 := fun ρ w o x y b f u hx hc hf h1 => by
  unfold execOp
  rcases h1 with ⟨_, _, _, hv⟩ | ⟨_, hv⟩ | ⟨_, _, hv⟩ <;> rw [hv] <;> go_simp
theorem store1_qmat : Store1 52 := fun ρ w o x y b f u hx hc hf h1 => by
  unfold execOp
  rcases h1 with ⟨_, _, _, hv⟩ | ⟨_, hv⟩ | ⟨_, _, hv⟩ <;> rw [hv] <;> go_simp
theorem strct_frame : Strct 55 2 := ⟨⟨_, Tryz.underlying55, rfl⟩, by kernel_rfl⟩
theorem alloc_frame (ρ : Operand → Value) (o : Oper) (w : World) : (execOp ρ { o with op := .alloc 55 }).run Tryz.prog w = .ok (.value (.pointer (some ⟨w.heap.size, 0, none⟩))) (w.alloc (.cells (Value.agg #[.slice none 0 0, .slice none 0 0]).cells 55 (0, 0))) := by
  unfold execOp
  go_simp
theorem part_frame0 (ρ : Operand → Value) (o : Oper) (x : Operand) (w : World) (b f : Nat) (h : ρ x = .pointer (some ⟨b, f, none⟩)) : (execOp ρ { o with op := .fieldAddr 55 x 0 }).run Tryz.prog w = .ok (.value (.pointer (some ⟨b, f, none⟩))) w := by
  unfold execOp
  go_simp
theorem part_frame1 (ρ : Operand → Value) (o : Oper) (x : Operand) (w : World) (b f : Nat) (h : ρ x = .pointer (some ⟨b, f, none⟩)) : (execOp ρ { o with op := .fieldAddr 55 x 1 }).run Tryz.prog w = .ok (.value (.pointer (some ⟨b, f + 1, none⟩))) w := by
  unfold execOp
  go_simp
end Go.Proofs.YtddjoigjdolafaaGreat

/-
 The document's frame of rows: each step of its rationals is a step of determinants.
-/
namespace Go.Proofs.YtddjoigjdolafaaGreat
open Go Go.RowKit Nt
set_option linter.unusedSimpArgs false
set_option linter.unusedVariables false
set_option maxRecDepth 20000

/-- One row more is taken out of both: the document's rationals. -/
theorem fr_sub {b b' x y : Int} {d0 d1 : Nat} (h0 : d0 ≠ 0) (h1 : d1 ≠ 0) (h : (d0 : Int) * b' = (d1 : Int) * b - x * y) :
  QQ (b * ((d1 * d1 * d0 : Nat) : Int) + (-(y * x * (d1 : Int))) * (d0 : Int)) (d0 * (d1 * d1 * d0)) = QQ b' d1 := by
 refine qq_eq (Nat.mul_ne_zero h0 (Nat.mul_ne_zero (Nat.mul_ne_zero h1 h1) h0)) h1 ?_
 simp only [Int.natCast_mul]
 generalize (d0 : Int) = p at *
 generalize (d1 : Int) = q at *
 have e1 : (b * (q * q * p) + (-(y * x * q)) * p) * q = (q * b - x * y) * (q * q * p) := by grind
 rw [e1, ← h]
 grind
/-- What is left by the squared length. -/
theorem fr_div {b : Int} {d0 d1 : Nat} (h0 : d0 ≠ 0) (h1 : d1 ≠ 0) : QQ (b * (d0 : Int)) (d0 * d1) = QQ b d1 := by
 refine qq_eq (Nat.mul_ne_zero h0 h1) h1 ?_
 simp only [Int.natCast_mul]
 grind
end Go.Proofs.YtddjoigjdolafaaGreat

/-
 The document's frame of rows: differences and quotients of rationals; its lists.
-/
namespace Go.Proofs.YtddjoigjdolafaaGreat
open Go Go.RowKit Nt
set_option linter.unusedSimpArgs false
set_option linter.unusedVariables false
set_option maxRecDepth 20000

theorem q_self {P : Int} {Q : Nat} (hQ : Q ≠ 0) : nR P Q * (Q : Int) = P * (dR P Q : Int) := nR_mul P Q
theorem q_neg {P : Int} {Q : Nat} (hQ : Q ≠ 0) : nR (-nR P Q) (dR P Q) = nR (-P) Q ∧ dR (-nR P Q) (dR P Q) = dR (-P) Q := by
 refine low_one (dR_ne hQ) hQ ?_
 have := q_self (P := P) hQ
 rw [Int.neg_mul, Int.neg_mul, this]
theorem q_rsub {P P' : Int} {Q Q' k k' lo lo' : Nat} (hQ : Q ≠ 0) (hQ' : Q' ≠ 0) (b1 : (digs P.natAbs).length ≤ k) (b2 : (digs Q).length ≤ k) (b3 : (digs P'.natAbs).length ≤ k') (b4 : (digs Q').length ≤ k') (hk : k ≤ 8388608) (hk' : k' ≤ 8388608) :
  ∀ w u v, QQ P Q lo u w → QQ P' Q' lo' v w → Calls Tryz.prog 77 #[u, v] w (Gives (QQ (P * (Q' : Int) + (-P') * (Q : Int)) (Q * Q')) w) := fun w u v h h' => by
 have := g_rrsub (dR_ne hQ) (dR_ne hQ') hk hk hk' hk' w u v (qq_rv b1 b2 u w h) (qq_rv b3 b4 v w h')
 obtain ⟨e1, e2⟩ := q_neg (P := P') hQ'
 rw [e1, e2] at this
 exact Gives.cast this (qq_eq (Nat.mul_ne_zero (dR_ne hQ) (dR_ne hQ')) (Nat.mul_ne_zero hQ hQ') q_cross)
theorem q_posn {p Q : Nat} (hp : p ≠ 0) (hQ : Q ≠ 0) : ∃ N : Nat, nR (p : Int) Q = (N : Int) ∧ N ≠ 0 := by
 have h := q_self (P := (p : Int)) hQ
 have h1 := dR_ne (X := (p : Int)) hQ
 have h2 : 0 < nR (p : Int) Q * (Q : Int) := by rw [h]; exact Int.mul_pos (by omega) (by omega)
 have h3 : 0 < nR (p : Int) Q := by
  rcases Int.lt_or_le 0 (nR (p : Int) Q) with h3 | h3
  ·exact h3
  ·have h4 := Int.mul_le_mul_of_nonneg_right h3 (show (0 : Int) ≤ (Q : Int) by omega)
   rw [Int.zero_mul] at h4
   omega
 exact ⟨(nR (p : Int) Q).toNat, by omega, by omega⟩
theorem q_rdiv {P : Int} {p Q Q' k k' lo lo' : Nat} (hQ : Q ≠ 0) (hQ' : Q' ≠ 0) (hp : p ≠ 0) (b1 : (digs P.natAbs).length ≤ k) (b2 : (digs Q).length ≤ k) (b3 : (digs p).length ≤ k') (b4 : (digs Q').length ≤ k') (hk : k ≤ 8388608) (hk' : k' ≤ 8388608) :
  ∀ w u v, QQ P Q lo u w → QQ (p : Int) Q' lo' v w → Calls Tryz.prog 79 #[u, v] w (Gives (QQ (P * (Q' : Int)) (Q * p)) w) := fun w u v h h' => by
 have hD := dR_ne (X := P) hQ
 have hM := dR_ne (X := (p : Int)) hQ'
 have r1 := qq_rv b1 b2 u w h
 have r2 := qq_rv (P := (p : Int)) (by rw [Int.natAbs_natCast]; exact b3) b4 v w h'
 obtain ⟨N, hN, hN0⟩ := q_posn hp hQ'
 have s1 := q_self (P := P) hQ
 have s2 := q_self (P := (p : Int)) hQ'
 rw [hN] at r2 s2
 have key := rdivq_w w u v (nR P Q) N (dR P Q) (dR (p : Int) Q') k k k' k' (rv_has r1).hs (rv_has r2).hs hD hN0 hk hk hk' hk'
 refine Gives.cast key (qq_eq (Nat.mul_ne_zero hD hN0) (Nat.mul_ne_zero hQ hp) ?_)
 simp only [Int.natCast_mul]
 generalize (dR (p : Int) Q' : Int) = M at *
 generalize (dR P Q : Int) = D at *
 generalize nR P Q = A at *
 generalize (N : Int) = N' at *
 generalize (p : Int) = p' at *
 have : A * M * ((Q : Int) * p') = (A * (Q : Int)) * (p' * M) := by grind
 rw [this, s1, ← s2]
 grind
/-! The lists of the frame. -/
def dt (G : Nat → Nat → Int) (k : Nat) : Nat := (Dt.det k G).toNat
def muL (G : Nat → Nat → Int) (i : Nat) : Nat → List (Int × Nat)
 | 0 => []
 | j + 1 => muL G i j ++ [(Dt.bo G j i j, dt G (j + 1))]
def stL (G : Nat → Nat → Int) : Nat → List (Int × Nat)
 | 0 => []
 | k + 1 => stL G k ++ [((dt G (k + 1) : Int), dt G k)]
def mmL (G : Nat → Nat → Int) : Nat → List (List (Int × Nat))
 | 0 => []
 | k + 1 => mmL G k ++ [muL G k k]
theorem muL_len (G : Nat → Nat → Int) (i : Nat) : ∀ j, (muL G i j).length = j
 | 0 => rfl
 | j + 1 => by simp [muL, muL_len G i j]
theorem stL_len (G : Nat → Nat → Int) : ∀ j, (stL G j).length = j
 | 0 => rfl
 | j + 1 => by simp [stL, stL_len G j]
theorem mmL_len (G : Nat → Nat → Int) : ∀ j, (mmL G j).length = j
 | 0 => rfl
 | j + 1 => by simp [mmL, mmL_len G j]
theorem snoc_get {α : Type} {l : List α} {x : α} {n : Nat} (h : l.length = n) : (l ++ [x])[n]? = some x := by
 rw [List.getElem?_append_right (by omega), h, Nat.sub_self]
 rfl
theorem muL_get {G : Nat → Nat → Int} {i : Nat} : ∀ {m k : Nat}, k < m → (muL G i m)[k]? = some (Dt.bo G k i k, dt G (k + 1))
 | m + 1, k, h => by
  have hl := muL_len G i m
  rw [muL]
  rcases Nat.lt_or_ge k m with h1 | h1
  ·rw [List.getElem?_append_left (by omega)]
   exact muL_get h1
  ·obtain rfl : k = m := by omega
   exact snoc_get hl
theorem stL_get {G : Nat → Nat → Int} : ∀ {m k : Nat}, k < m → (stL G m)[k]? = some ((dt G (k + 1) : Int), dt G k)
 | m + 1, k, h => by
  have hl := stL_len G m
  rw [stL]
  rcases Nat.lt_or_ge k m with h1 | h1
  ·rw [List.getElem?_append_left (by omega)]
   exact stL_get h1
  ·obtain rfl : k = m := by omega
   exact snoc_get hl
theorem mmL_get {G : Nat → Nat → Int} : ∀ {m k : Nat}, k < m → (mmL G m)[k]? = some (muL G k k)
 | m + 1, k, h => by
  have hl := mmL_len G m
  rw [mmL]
  rcases Nat.lt_or_ge k m with h1 | h1
  ·rw [List.getElem?_append_left (by omega)]
   exact mmL_get h1
  ·obtain rfl : k = m := by omega
   exact snoc_get hl
end Go.Proofs.YtddjoigjdolafaaGreat
