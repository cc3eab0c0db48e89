import Derived.Test.YtdhjgekbocnnkaaDoorSetT
import Derived.Test.YtdhjgekbocnnkaaDoorSetR
import Derived.Test.YtdhjgekbocnnkaaDoorMConts
import Derived.Test.YtdhjgekbocnnkaaDoorSetG
import Derived.Test.YtdhjgekbocnnkaaDoorSetV
import Derived.Test.YtdhjgekbocnnkaaDoorMUnit
/-
  The table of powers of ten as a fact of a slot that nobody writes; texts as values; strings.Join.
-/
namespace Go.Proofs.YtdhjgekbocnnkaaDoor
open Go Go.RowKit Nt
set_option linter.unusedSimpArgs false
set_option linter.unusedVariables false
set_option maxRecDepth 20000

theorem tab_ev {w w' : World} (h : Tab w) (e : Ev (fun _ => False) w w') : Tab w' := by
  unfold Tab Lib.TabIs World.var? at *
  cases hg : Tryd.prog.globalNamed "internal/strconv.uint64pow10" with
  | none => rw [hg] at h; cases h
  | some g =>
    rw [hg] at h
    simp only [Option.bind_some] at h ⊢
    cases hw : w.heap[g]? with
    | none => rw [hw] at h; cases h
    | some o =>
      rw [e.block g (Array.getElem?_eq_some_iff.1 hw).1 (fun h => h), hw]
      rw [hw] at h
      exact h
/-- The table, as a fact of a slot. -/
def TT : Pr := fun _ w => Tab w
theorem tt_has {w : World} (h : Tab w) : ∀ v, Has (fun _ => False) w TT v := fun v w' e => tab_ev h e
/-- What is said of a value, and the table beside it. -/
def TP (φ : Pr) : Pr := fun v w => φ v w ∧ Tab w
theorem tp_hs {w : World} {φ : Pr} {v : Value} (h : Hs w φ v) (ht : Tab w) : Hs w (TP φ) v := fun w' e => ⟨h w' e, tab_ev ht e⟩
theorem tp_out {w : World} {φ : Pr} {v : Value} (h : Hs w (TP φ) v) : Hs w φ v ∧ Tab w := ⟨fun w' e => (h w' e).1, h.now.2⟩
theorem tp_imp {φ ψ : Pr} (hi : ∀ v w, φ v w → ψ v w) : ∀ v w, TP φ v w → TP ψ v w := fun v w h => ⟨hi v w h.1, h.2⟩
theorem Sta.moreT {w0 W : World} {n : Nat} {bx : Bxs} {sl : List (Tmp × Pr)} {B : Nat → Prop} {a : Act} (S : Sta w0 n bx sl B a W) (t : Nat) {φ : Pr} (h : ∀ v, Has B W φ v) : Sta w0 n bx (sl ++ [(t, φ)]) B a W :=
  ⟨S.ent, S.bnd, S.siz, S.dfr, S.box, S.sep, fun x hx => by
    rcases List.mem_append.1 hx with h1 | h1
    · exact S.slt x h1
    · rw [List.mem_singleton.1 h1]; exact h _⟩
section
variable {ops : Array Oper} {l : List Kd} {bx : Bxs} {sl : List (Tmp × Pr)} {i : Nat} {o : Oper} {Q : Exit → Act → World → Prop} {a0 : Act} {n : Nat} {w0 : World}
theorem opnd_tp {x y : Operand} {φ : Pr} (h : Opnd ops l bx sl i x φ) (hy : Opnd ops l bx sl i y TT) : Opnd ops l bx sl i x (TP φ) := fun a0 n w0 vs B a w c w' e => ⟨h a0 n w0 vs B a w c w' e, hy a0 n w0 vs B a w c w' e⟩
theorem owe_call0T {ψ : Nat → Pr} {f : FuncId} {y : Operand} {ts : Array TypeId} (ho : ops[i]? = some o) (hw : Wants ops l bx sl i o) (hop : o.op = .call { callee := .value (.func f), args := #[], argTypes := ts }) (hy : Opnd ops l bx sl i y TT) (hF : Fresh ψ) (hk : kdAt l i = .val (ψ w0.heap.size))
    (hcf : ∀ args w, (callFunc f args).run Tryd.prog w = .ok (.enter f args) w) (C : ∀ w, Tab w → Calls Tryd.prog f #[] w (Gives ψ w)) : Owed Tryd.prog ops Q l bx sl a0 n w0 i :=
  owe_call ho hw hop hF hk hcf fun vs B a w c => by
    rw [show (#[] : Array Operand).map a.eval = #[] from by simp]
    exact C w (hy a0 n w0 vs B a w c).now
end
/-- A function that wants the table, as a value. -/
theorem is_fn1T {f : FuncId} {φs : List Pr} {ψs : List (Nat → Pr)} (hcf : ∀ args w, (callFunc f args).run Tryd.prog w = .ok (.enter f args) w) (C : ∀ (i : Nat) φ ψ, φs[i]? = some φ → ψs[i]? = some ψ → ∀ w u, Tab w → Hs w φ u → Calls Tryd.prog f #[u] w (Gives ψ w)) : ∀ v w, TP (Is (.func (.func f) #[] #[])) v w → Fn1 φs ψs v w := fun v w e =>
  ⟨f, #[], e.1, hcf, fun i φ ψ h1 h2 u hu => by simpa using C i φ ψ h1 h2 w u e.2 hu⟩

/-! Texts. -/
/-- A text as a value. -/
def str (l : List UInt8) : Value := .string ⟨l.toArray⟩
def txN (m : Nat) : List UInt8 := Lib.decDigits m
def txZ (z : Int) : List UInt8 := if z < 0 then 45 :: txN z.natAbs else txN z.natAbs
def txV (zs : List Int) : List UInt8 := Lib.join (zs.map txZ) [32]
def txM (A : List (List Int)) : List UInt8 := Lib.join (A.map txV) [59, 32]
theorem dec_pow (m : Nat) : ∀ X, X < 2 ^ m → (Lib.decDigits X).length ≤ m + 1 := by
  induction m with
  | zero =>
    intro X h
    have : X = 0 := by simpa using h
    subst this
    rw [Lib.decDigits]
    simp
  | succ m ih =>
    intro X h
    rw [Lib.decDigits]
    split
    · simp
    · have h1 := ih (X / 10) (by rw [Nat.pow_succ] at h; omega)
      rw [List.length_append, List.length_singleton]
      omega
theorem txN_len {x k : Nat} (h : (digs x).length ≤ k) : (txN x).length ≤ 32 * k + 1 := by
  refine dec_pow _ x ?_
  have h1 := lt_pow_digs x
  have h2 : (4294967296 : Nat) ^ (digs x).length ≤ 4294967296 ^ k := Nat.pow_le_pow_right (by omega) h
  have h3 : (4294967296 : Nat) ^ k = 2 ^ (32 * k) := by rw [Nat.pow_mul]
  omega
theorem txZ_len {z : Int} {k : Nat} (h : (digs z.natAbs).length ≤ k) : (txZ z).length ≤ 32 * k + 2 := by
  have := txN_len h
  unfold txZ
  split
  · rw [List.length_cons]; omega
  · omega
theorem txN_0 : txN 0 = [48] := by unfold txN; rw [Lib.decDigits]; rfl
theorem txN_1 : txN 1 = [49] := by unfold txN; rw [Lib.decDigits]; rfl
theorem tx_unit : txM [[1, 0], [0, 1]] = [49, 32, 48, 59, 32, 48, 32, 49] := by
  simp [txM, txV, txZ, txN_0, txN_1, Lib.join, List.intercalate, List.intersperse]
theorem str_size (l : List UInt8) : (⟨l.toArray⟩ : ByteArray).size = l.length := by simp [ByteArray.size]

theorem g_text {x k : Nat} (hk : k ≤ 1048577) : ∀ w u, Hs w (TP (Nv x k)) u → Calls Tryd.prog 51 #[u] w (Gives (IS (str (txN x))) w) := by
  intro w u h
  obtain ⟨⟨p, n, c, xs, rfl, hx, rfl, hn⟩, ht⟩ := h.now
  refine (text_c w p n c xs hx (by omega) ht).mono ?_
  rintro e w' ⟨rfl, hb⟩
  exact ⟨_, rfl, hb, rfl⟩
/-- strings.Join of a list of texts that are known. -/
theorem g_join {n : Nat} (ls : List (List UInt8)) (sep : List UInt8) (hn : ls.length = n) (hb : n ≤ 140737488355328) (hlen : (Lib.join ls sep).length ≤ 140737488355328) : ∀ w u v, Hs w (Ar 1 n (ls.map (fun l => Is (str l)))) u → Hs w (Is (str sep)) v → Calls Tryd.prog 23 #[u, v] w (Gives (IS (str (Lib.join ls sep))) w) := by
  intro w u v h hv
  obtain rfl : v = str sep := hv.now
  obtain ⟨p, c, rfl, hl, ⟨b1, b2, b3⟩, ha⟩ := h.now
  cases ls with
  | nil =>
    obtain rfl : n = 0 := hn.symm
    refine (Tryd.strings_Join_none p c _ w).mono ?_
    rintro e w' ⟨rfl, rfl⟩
    exact ⟨_, rfl, Below.refl _ _, rfl⟩
  | cons l0 r =>
    obtain ⟨b, o, u0, rfl, hc0, hs0, _⟩ := ha 0 (Is (str l0)) rfl
    have hcell : ∀ (j : Nat) x, ((l0 :: r).map (fun l => (⟨l.toArray⟩ : ByteArray)))[j]? = some x → w.cell? ⟨b, o + j, none⟩ = some (.string x) := by
      intro j x hx
      rw [List.getElem?_map] at hx
      obtain ⟨y, hy, rfl⟩ := Option.map_eq_some_iff.1 hx
      obtain ⟨b', o', u', e1, h1, h2, h3⟩ := ha j (Is (str y)) (by rw [List.getElem?_map, hy]; rfl)
      cases e1
      obtain rfl : u' = str y := h3
      have := h1 0 (str y) rfl
      simpa [str] using this
    have hblk : b < w.heap.size := cell_some_block (hcell 0 ⟨l0.toArray⟩ rfl)
    have e1 : ((l0 :: r).map (fun l => (⟨l.toArray⟩ : ByteArray))).map (·.data.toList) = l0 :: r := by
      rw [List.map_map]
      exact List.map_id _
    have := Tryd.strings_Join b o c ((l0 :: r).map (fun l => (⟨l.toArray⟩ : ByteArray))) ⟨sep.toArray⟩ w hcell hblk (by rw [List.length_map, hn]; exact hb) (by rw [List.length_map, hn]; exact b1) (by rw [e1]; simpa using hlen)
    rw [e1, List.length_map, hn] at this
    refine this.mono ?_
    rintro e w' ⟨rfl, hb⟩
    exact ⟨_, rfl, hb, rfl⟩
end Go.Proofs.YtdhjgekbocnnkaaDoor

/-
  zint.Text and the document's.
-/
namespace Go.Proofs.YtdhjgekbocnnkaaDoor
open Go Go.RowKit Nt
set_option linter.unusedSimpArgs false
set_option linter.unusedVariables false
set_option maxRecDepth 20000

theorem sign_ge {z : Int} (h : 0 ≤ z) : 0 ≤ z.sign := by
  rcases Int.lt_or_eq_of_le h with h | h
  · rw [Int.sign_eq_one_of_pos h]; decide
  · rw [← h]; decide

theorem run_cat (ρ : Operand → Value) (o : Oper) (x y : Operand) (w : World) (a b : List UInt8) (hl : a.length + b.length ≤ 9223372036854775807) (h1 : ρ x = str a) (h2 : ρ y = str b) : (execOp ρ { o with op := .binOp .add 9 x y 9 }).run Tryd.prog w = .ok (.value (str (a ++ b))) w := by
  have e : str (a ++ b) = .string ((⟨a.toArray⟩ : ByteArray) ++ ⟨b.toArray⟩) := by
    unfold str
    congr 1
    first | (apply ByteArray.ext; simp) | skip
  rw [e]
  unfold str at h1 h2
  unfold execOp
  go_simp
theorem g_rtext {x k : Nat} (hk : k ≤ 1048577) : ∀ w u, Nv x k u w → Calls Tryd.prog 52 #[u] w (Gives (IS (str (txN x))) w) := by
  rintro w u ⟨p, n, c, xs, rfl, hx, rfl, hn⟩
  refine (rtext_c w p n c xs hx (by omega)).mono ?_
  rintro e w' ⟨rfl, hb⟩
  exact ⟨_, rfl, hb, rfl⟩
theorem txZ_neg {z : Int} (h : z < 0) : txZ z = 45 :: txN z.natAbs := if_pos h
theorem txZ_pos {z : Int} (h : 0 ≤ z) : txZ z = txN z.natAbs := if_neg (by omega)

set_option maxHeartbeats 400000 in
theorem ztext_m (w : World) (s : Bool) (p : Option Addr) (n c : Nat) (xs : List Nat) (h : Sl w p n c xs) (hn : n ≤ 1048576) (hT : Tab w) (hz : (sg s (val xs)) < 0) :
    Calls Tryd.prog 26 #[.agg #[.bool s, .slice p n c]] w (Gives (IS (str (txZ (sg s (val xs))))) w) := by
  have hsg : (sg s (val xs)).sign < 0 := by rw [Int.sign_eq_neg_one_of_neg hz]; decide
  have hr : txZ (sg s (val xs)) = 45 :: txN (val xs) := by rw [txZ_neg hz, sg_abs]
  have hcl : [(45 : UInt8)].length + (txN (val xs)).length ≤ 9223372036854775807 := by have := txN_len (x := val xs) h.dl; simp only [List.length_singleton]; omega
  rw [hr]
  refine calls_sta (sl := [(0, (Zx s p n c xs))]) Tryd.func26 rfl Tryd.ntmps26 (by simp) (args_cons rfl (zx_has h) args_nil) ?_
  intro a0 S0
  replace S0 : Sta w 13 [] [(0, (Zx s p n c xs)), (1000001, TT)] (fun _ => False) a0 w := S0.moreT 1000001 (tt_has hT)
  refine wp_stmt_seq [.new (.box 36 (Zx s p n c xs)),
      .val (Is (.string (ByteArray.mk #[])))] [.inl 0] [.inl 1, .inr 1] follows S0 rfl (by kernel_rfl) ?_ ?_
  · refine ⟨⟨trivial, ?_⟩, ?_⟩
    · exact owe_box rfl (wants_all rfl) rfl (opnd_slot 0 0 rfl (by kernel_rfl)) rfl (fun ρ w h => box_int shp_zx ρ _ _ w h)
    · exact owe_move rfl (wants_all rfl) (Or.inr rfl) (opnd_const _) rfl
  intro B1 a1 W1 S1
  replace S1 : Sta w 13 [(1, (.box 36 (Zx s p n c xs)))] [(2, (Is (.string (ByteArray.mk #[])))), (1000001, TT)] B1 a1 W1 := S1
  refine wp_seq ?_
  refine wp_stmt_seq [.val (Zx s p n c xs),
      .val (Is (.int .i64 (sg s (val xs)).sign)),
      .val (Is (.bool true))] [.inr 0] [.inl 2, .inr 0, .inr 1] follows S1 rfl (by kernel_rfl) ?_ ?_
  · refine ⟨⟨⟨trivial, ?_⟩, ?_⟩, ?_⟩
    · exact owe_load rfl (wants_all rfl) rfl (k := 0) rfl (by kernel_rfl) (loads_of strct_int shp_zx) rfl
    · exact owe_callh1 rfl (wants_all rfl) rfl ((opnd_op 0 3 (by kernel_rfl) rfl).imp (zx_zv' rfl (Nat.le_refl _))) (fresh_is _) rfl (fun args w => by go_simp) (fun w u h => h_zsign (by omega) w u h.now)
    · exact owe_bin rfl (wants_all rfl) rfl (opnd_op 1 4 (by kernel_rfl) rfl) (opnd_const _) rfl (fun ρ w h1 h2 => by exact run_lss_int_t ρ _ _ _ w _ _ (by omega) h1 h2)
  intro B2 a2 W2 S2
  replace S2 : Sta w 13 [(1, (.box 36 (Zx s p n c xs)))] [(5, (Is (.bool true))), (2, (Is (.string (ByteArray.mk #[])))), (1000001, TT)] B2 a2 W2 := S2
  refine wp_cond_true (S2.bool 0 5 rfl) ?_
  refine wp_stmt_seq [.val (Part a2 1 1),
      .val (Nx p n c xs),
      .val (Is (str (txN (val xs)))),
      .val (Is (str (45 :: txN (val xs)))),
      .val (Is (str (45 :: txN (val xs))))] [.inr 0] [.inl 4, .inr 0, .inr 2] follows S2 rfl (by kernel_rfl) ?_ ?_
  · refine ⟨⟨⟨⟨⟨trivial, ?_⟩, ?_⟩, ?_⟩, ?_⟩, ?_⟩
    · exact owe_part rfl (wants_all rfl) rfl (k := 0) rfl (by kernel_rfl) rfl (fun ρ w b h => part_int1 ρ _ _ w b 0 h)
    · exact owe_pload rfl (wants_all rfl) rfl (opnd_op 0 6 (by kernel_rfl) rfl) (k := 0) rfl (by kernel_rfl) rfl (fun ρ w b u h1 h2 h3 => pload_mag zx_mag ρ _ _ w b u h1 h2 h3)
    · exact owe_callh1 rfl (wants_all rfl) rfl (opnd_tp ((opnd_op 1 7 (by kernel_rfl) rfl).imp (nx_nv (Nat.le_refl _))) (opnd_slot 2 1000001 rfl (by kernel_rfl))) (fresh_is _) rfl (fun args w => by go_simp) (g_text (by omega))
    · exact owe_bin rfl (wants_all rfl) rfl (opnd_const _) (opnd_op 2 8 (by kernel_rfl) rfl) rfl (fun ρ w h1 h2 => by exact run_cat ρ _ _ _ w [45] _ hcl h1 h2)
    · exact owe_move rfl (wants_all rfl) (Or.inr rfl) (opnd_op 3 9 (by kernel_rfl) rfl) rfl
  intro B3 a3 W3 S3
  replace S3 : Sta w 13 [(1, (.box 36 (Zx s p n c xs)))] [(2, (Is (str (45 :: txN (val xs))))), (5, (Is (.bool true))), (1000001, TT)] B3 a3 W3 := S3
  refine wp_ret ?_
  refine thenR ?_
  exact end_one S3 rfl (res_tmp S3 0 2 rfl)

set_option maxHeartbeats 400000 in
theorem rztext_m (w : World) (s : Bool) (p : Option Addr) (n c : Nat) (xs : List Nat) (h : Sl w p n c xs) (hn : n ≤ 1048576) (hz : (sg s (val xs)) < 0) :
    Calls Tryd.prog 28 #[.agg #[.bool s, .slice p n c]] w (Gives (IS (str (txZ (sg s (val xs))))) w) := by
  have hsg : (sg s (val xs)).sign < 0 := by rw [Int.sign_eq_neg_one_of_neg hz]; decide
  have hr : txZ (sg s (val xs)) = 45 :: txN (val xs) := by rw [txZ_neg hz, sg_abs]
  have hcl : [(45 : UInt8)].length + (txN (val xs)).length ≤ 9223372036854775807 := by have := txN_len (x := val xs) h.dl; simp only [List.length_singleton]; omega
  rw [hr]
  refine calls_sta (sl := [(0, (Zx s p n c xs))]) Tryd.func28 rfl Tryd.ntmps28 (by simp) (args_cons rfl (zx_has h) args_nil) ?_
  intro a0 S0
  refine wp_stmt_seq [.new (.box 36 (Zx s p n c xs)),
      .val (Is (.string (ByteArray.mk #[])))] [.inl 0] [.inl 1] follows S0 rfl (by kernel_rfl) ?_ ?_
  · refine ⟨⟨trivial, ?_⟩, ?_⟩
    · exact owe_box rfl (wants_all rfl) rfl (opnd_slot 0 0 rfl (by kernel_rfl)) rfl (fun ρ w h => box_int shp_zx ρ _ _ w h)
    · exact owe_move rfl (wants_all rfl) (Or.inr rfl) (opnd_const _) rfl
  intro B1 a1 W1 S1
  replace S1 : Sta w 13 [(1, (.box 36 (Zx s p n c xs)))] [(2, (Is (.string (ByteArray.mk #[]))))] B1 a1 W1 := S1
  refine wp_stmt_seq [.val (Part a1 1 1),
      .val (Nx p n c xs),
      .val (Is (str (txN (val xs)))),
      .val (Is (str (txN (val xs))))] [.inr 0] [.inl 3, .inr 0] follows S1 rfl (by kernel_rfl) ?_ ?_
  · refine ⟨⟨⟨⟨trivial, ?_⟩, ?_⟩, ?_⟩, ?_⟩
    · exact owe_part rfl (wants_all rfl) rfl (k := 0) rfl (by kernel_rfl) rfl (fun ρ w b h => part_int1 ρ _ _ w b 0 h)
    · exact owe_pload rfl (wants_all rfl) rfl (opnd_op 0 4 (by kernel_rfl) rfl) (k := 0) rfl (by kernel_rfl) rfl (fun ρ w b u h1 h2 h3 => pload_mag zx_mag ρ _ _ w b u h1 h2 h3)
    · exact owe_callh1 rfl (wants_all rfl) rfl ((opnd_op 1 5 (by kernel_rfl) rfl).imp (nx_nv (Nat.le_refl _))) (fresh_is _) rfl (fun args w => by go_simp) (fun w u h => g_rtext (by omega) w u h.now)
    · exact owe_move rfl (wants_all rfl) (Or.inr rfl) (opnd_op 2 6 (by kernel_rfl) rfl) rfl
  intro B2 a2 W2 S2
  replace S2 : Sta w 13 [(1, (.box 36 (Zx s p n c xs)))] [(3, (Is (str (txN (val xs))))), (2, (Is (.string (ByteArray.mk #[]))))] B2 a2 W2 := S2
  refine wp_seq ?_
  refine wp_stmt_seq [.val (Zx s p n c xs),
      .val (Is (.int .i64 (sg s (val xs)).sign)),
      .val (Is (.bool true))] [.inr 0] [.inl 2, .inr 0, .inr 1] follows S2 rfl (by kernel_rfl) ?_ ?_
  · refine ⟨⟨⟨trivial, ?_⟩, ?_⟩, ?_⟩
    · exact owe_load rfl (wants_all rfl) rfl (k := 0) rfl (by kernel_rfl) (loads_of strct_int shp_zx) rfl
    · exact owe_callh1 rfl (wants_all rfl) rfl ((opnd_op 0 7 (by kernel_rfl) rfl).imp (zx_zv' rfl (Nat.le_refl _))) (fresh_is _) rfl (fun args w => by go_simp) (fun w u h => g_rsign (by omega) w u h.now)
    · exact owe_bin rfl (wants_all rfl) rfl (opnd_op 1 8 (by kernel_rfl) rfl) (opnd_const _) rfl (fun ρ w h1 h2 => by exact run_lss_int_t ρ _ _ _ w _ _ (by omega) h1 h2)
  intro B3 a3 W3 S3
  replace S3 : Sta w 13 [(1, (.box 36 (Zx s p n c xs)))] [(9, (Is (.bool true))), (3, (Is (str (txN (val xs))))), (2, (Is (.string (ByteArray.mk #[]))))] B3 a3 W3 := S3
  refine wp_cond_true (S3.bool 0 9 rfl) ?_
  refine wp_stmt_seq [.val (Is (str (txN (val xs)))),
      .val (Is (str (45 :: txN (val xs)))),
      .val (Is (str (45 :: txN (val xs))))] [.inr 0] [.inl 2, .inr 0, .inr 1] follows S3 rfl (by kernel_rfl) ?_ ?_
  · refine ⟨⟨⟨trivial, ?_⟩, ?_⟩, ?_⟩
    · exact owe_move rfl (wants_all rfl) (Or.inl rfl) (opnd_slot 1 3 rfl (by kernel_rfl)) rfl
    · exact owe_bin rfl (wants_all rfl) rfl (opnd_const _) (opnd_op 0 10 (by kernel_rfl) rfl) rfl (fun ρ w h1 h2 => by exact run_cat ρ _ _ _ w [45] _ hcl h1 h2)
    · exact owe_move rfl (wants_all rfl) (Or.inr rfl) (opnd_op 1 11 (by kernel_rfl) rfl) rfl
  intro B4 a4 W4 S4
  replace S4 : Sta w 13 [(1, (.box 36 (Zx s p n c xs)))] [(2, (Is (str (45 :: txN (val xs))))), (9, (Is (.bool true))), (3, (Is (str (txN (val xs)))))] B4 a4 W4 := S4
  refine wp_ret ?_
  refine thenR ?_
  exact end_one S4 rfl (res_tmp S4 0 2 rfl)

set_option maxHeartbeats 400000 in
theorem ztext_p (w : World) (s : Bool) (p : Option Addr) (n c : Nat) (xs : List Nat) (h : Sl w p n c xs) (hn : n ≤ 1048576) (hT : Tab w) (hz : 0 ≤ (sg s (val xs))) :
    Calls Tryd.prog 26 #[.agg #[.bool s, .slice p n c]] w (Gives (IS (str (txZ (sg s (val xs))))) w) := by
  have hsg : 0 ≤ (sg s (val xs)).sign := by exact sign_ge hz
  have hr : txZ (sg s (val xs)) = txN (val xs) := by rw [txZ_pos hz, sg_abs]
  have hcl : [(45 : UInt8)].length + (txN (val xs)).length ≤ 9223372036854775807 := by have := txN_len (x := val xs) h.dl; simp only [List.length_singleton]; omega
  rw [hr]
  refine calls_sta (sl := [(0, (Zx s p n c xs))]) Tryd.func26 rfl Tryd.ntmps26 (by simp) (args_cons rfl (zx_has h) args_nil) ?_
  intro a0 S0
  replace S0 : Sta w 13 [] [(0, (Zx s p n c xs)), (1000001, TT)] (fun _ => False) a0 w := S0.moreT 1000001 (tt_has hT)
  refine wp_stmt_seq [.new (.box 36 (Zx s p n c xs)),
      .val (Is (.string (ByteArray.mk #[])))] [.inl 0] [.inl 1, .inr 1] follows S0 rfl (by kernel_rfl) ?_ ?_
  · refine ⟨⟨trivial, ?_⟩, ?_⟩
    · exact owe_box rfl (wants_all rfl) rfl (opnd_slot 0 0 rfl (by kernel_rfl)) rfl (fun ρ w h => box_int shp_zx ρ _ _ w h)
    · exact owe_move rfl (wants_all rfl) (Or.inr rfl) (opnd_const _) rfl
  intro B1 a1 W1 S1
  replace S1 : Sta w 13 [(1, (.box 36 (Zx s p n c xs)))] [(2, (Is (.string (ByteArray.mk #[])))), (1000001, TT)] B1 a1 W1 := S1
  refine wp_seq ?_
  refine wp_stmt_seq [.val (Zx s p n c xs),
      .val (Is (.int .i64 (sg s (val xs)).sign)),
      .val (Is (.bool false))] [.inr 0] [.inl 2, .inr 0, .inr 1] follows S1 rfl (by kernel_rfl) ?_ ?_
  · refine ⟨⟨⟨trivial, ?_⟩, ?_⟩, ?_⟩
    · exact owe_load rfl (wants_all rfl) rfl (k := 0) rfl (by kernel_rfl) (loads_of strct_int shp_zx) rfl
    · exact owe_callh1 rfl (wants_all rfl) rfl ((opnd_op 0 3 (by kernel_rfl) rfl).imp (zx_zv' rfl (Nat.le_refl _))) (fresh_is _) rfl (fun args w => by go_simp) (fun w u h => h_zsign (by omega) w u h.now)
    · exact owe_bin rfl (wants_all rfl) rfl (opnd_op 1 4 (by kernel_rfl) rfl) (opnd_const _) rfl (fun ρ w h1 h2 => by exact run_lss_int_f ρ _ _ _ w _ _ (by omega) h1 h2)
  intro B2 a2 W2 S2
  replace S2 : Sta w 13 [(1, (.box 36 (Zx s p n c xs)))] [(5, (Is (.bool false))), (2, (Is (.string (ByteArray.mk #[])))), (1000001, TT)] B2 a2 W2 := S2
  refine wp_cond_false (S2.bool 0 5 rfl) ?_
  refine wp_skip ?_
  refine thenN ?_
  refine wp_stmt_seq [.val (Part a2 1 1),
      .val (Nx p n c xs),
      .val (Is (str (txN (val xs)))),
      .val (Is (str (txN (val xs))))] [.inr 0] [.inl 3, .inr 0, .inr 2] follows S2 rfl (by kernel_rfl) ?_ ?_
  · refine ⟨⟨⟨⟨trivial, ?_⟩, ?_⟩, ?_⟩, ?_⟩
    · exact owe_part rfl (wants_all rfl) rfl (k := 0) rfl (by kernel_rfl) rfl (fun ρ w b h => part_int1 ρ _ _ w b 0 h)
    · exact owe_pload rfl (wants_all rfl) rfl (opnd_op 0 10 (by kernel_rfl) rfl) (k := 0) rfl (by kernel_rfl) rfl (fun ρ w b u h1 h2 h3 => pload_mag zx_mag ρ _ _ w b u h1 h2 h3)
    · exact owe_callh1 rfl (wants_all rfl) rfl (opnd_tp ((opnd_op 1 11 (by kernel_rfl) rfl).imp (nx_nv (Nat.le_refl _))) (opnd_slot 2 1000001 rfl (by kernel_rfl))) (fresh_is _) rfl (fun args w => by go_simp) (g_text (by omega))
    · exact owe_move rfl (wants_all rfl) (Or.inr rfl) (opnd_op 2 12 (by kernel_rfl) rfl) rfl
  intro B3 a3 W3 S3
  replace S3 : Sta w 13 [(1, (.box 36 (Zx s p n c xs)))] [(2, (Is (str (txN (val xs))))), (5, (Is (.bool false))), (1000001, TT)] B3 a3 W3 := S3
  refine wp_ret ?_
  exact end_one S3 rfl (res_tmp S3 0 2 rfl)

set_option maxHeartbeats 400000 in
theorem rztext_p (w : World) (s : Bool) (p : Option Addr) (n c : Nat) (xs : List Nat) (h : Sl w p n c xs) (hn : n ≤ 1048576) (hz : 0 ≤ (sg s (val xs))) :
    Calls Tryd.prog 28 #[.agg #[.bool s, .slice p n c]] w (Gives (IS (str (txZ (sg s (val xs))))) w) := by
  have hsg : 0 ≤ (sg s (val xs)).sign := by exact sign_ge hz
  have hr : txZ (sg s (val xs)) = txN (val xs) := by rw [txZ_pos hz, sg_abs]
  have hcl : [(45 : UInt8)].length + (txN (val xs)).length ≤ 9223372036854775807 := by have := txN_len (x := val xs) h.dl; simp only [List.length_singleton]; omega
  rw [hr]
  refine calls_sta (sl := [(0, (Zx s p n c xs))]) Tryd.func28 rfl Tryd.ntmps28 (by simp) (args_cons rfl (zx_has h) args_nil) ?_
  intro a0 S0
  refine wp_stmt_seq [.new (.box 36 (Zx s p n c xs)),
      .val (Is (.string (ByteArray.mk #[])))] [.inl 0] [.inl 1] follows S0 rfl (by kernel_rfl) ?_ ?_
  · refine ⟨⟨trivial, ?_⟩, ?_⟩
    · exact owe_box rfl (wants_all rfl) rfl (opnd_slot 0 0 rfl (by kernel_rfl)) rfl (fun ρ w h => box_int shp_zx ρ _ _ w h)
    · exact owe_move rfl (wants_all rfl) (Or.inr rfl) (opnd_const _) rfl
  intro B1 a1 W1 S1
  replace S1 : Sta w 13 [(1, (.box 36 (Zx s p n c xs)))] [(2, (Is (.string (ByteArray.mk #[]))))] B1 a1 W1 := S1
  refine wp_stmt_seq [.val (Part a1 1 1),
      .val (Nx p n c xs),
      .val (Is (str (txN (val xs)))),
      .val (Is (str (txN (val xs))))] [.inr 0] [.inl 3, .inr 0] follows S1 rfl (by kernel_rfl) ?_ ?_
  · refine ⟨⟨⟨⟨trivial, ?_⟩, ?_⟩, ?_⟩, ?_⟩
    · exact owe_part rfl (wants_all rfl) rfl (k := 0) rfl (by kernel_rfl) rfl (fun ρ w b h => part_int1 ρ _ _ w b 0 h)
    · exact owe_pload rfl (wants_all rfl) rfl (opnd_op 0 4 (by kernel_rfl) rfl) (k := 0) rfl (by kernel_rfl) rfl (fun ρ w b u h1 h2 h3 => pload_mag zx_mag ρ _ _ w b u h1 h2 h3)
    · exact owe_callh1 rfl (wants_all rfl) rfl ((opnd_op 1 5 (by kernel_rfl) rfl).imp (nx_nv (Nat.le_refl _))) (fresh_is _) rfl (fun args w => by go_simp) (fun w u h => g_rtext (by omega) w u h.now)
    · exact owe_move rfl (wants_all rfl) (Or.inr rfl) (opnd_op 2 6 (by kernel_rfl) rfl) rfl
  intro B2 a2 W2 S2
  replace S2 : Sta w 13 [(1, (.box 36 (Zx s p n c xs)))] [(3, (Is (str (txN (val xs))))), (2, (Is (.string (ByteArray.mk #[]))))] B2 a2 W2 := S2
  refine wp_seq ?_
  refine wp_stmt_seq [.val (Zx s p n c xs),
      .val (Is (.int .i64 (sg s (val xs)).sign)),
      .val (Is (.bool false))] [.inr 0] [.inl 2, .inr 0, .inr 1] follows S2 rfl (by kernel_rfl) ?_ ?_
  · refine ⟨⟨⟨trivial, ?_⟩, ?_⟩, ?_⟩
    · exact owe_load rfl (wants_all rfl) rfl (k := 0) rfl (by kernel_rfl) (loads_of strct_int shp_zx) rfl
    · exact owe_callh1 rfl (wants_all rfl) rfl ((opnd_op 0 7 (by kernel_rfl) rfl).imp (zx_zv' rfl (Nat.le_refl _))) (fresh_is _) rfl (fun args w => by go_simp) (fun w u h => g_rsign (by omega) w u h.now)
    · exact owe_bin rfl (wants_all rfl) rfl (opnd_op 1 8 (by kernel_rfl) rfl) (opnd_const _) rfl (fun ρ w h1 h2 => by exact run_lss_int_f ρ _ _ _ w _ _ (by omega) h1 h2)
  intro B3 a3 W3 S3
  replace S3 : Sta w 13 [(1, (.box 36 (Zx s p n c xs)))] [(9, (Is (.bool false))), (3, (Is (str (txN (val xs))))), (2, (Is (.string (ByteArray.mk #[]))))] B3 a3 W3 := S3
  refine wp_cond_false (S3.bool 0 9 rfl) ?_
  refine wp_skip ?_
  refine thenN ?_
  refine wp_stmt_seq [.val (Is (str (txN (val xs)))),
      .val (Is (str (txN (val xs))))] [.inr 0] [.inl 1, .inr 0, .inr 1] follows S3 rfl (by kernel_rfl) ?_ ?_
  · refine ⟨⟨trivial, ?_⟩, ?_⟩
    · exact owe_move rfl (wants_all rfl) (Or.inl rfl) (opnd_slot 1 3 rfl (by kernel_rfl)) rfl
    · exact owe_move rfl (wants_all rfl) (Or.inr rfl) (opnd_op 0 12 (by kernel_rfl) rfl) rfl
  intro B4 a4 W4 S4
  replace S4 : Sta w 13 [(1, (.box 36 (Zx s p n c xs)))] [(2, (Is (str (txN (val xs))))), (9, (Is (.bool false))), (3, (Is (str (txN (val xs)))))] B4 a4 W4 := S4
  refine wp_ret ?_
  exact end_one S4 rfl (res_tmp S4 0 2 rfl)

theorem h_ztext {A : Int} {k : Nat} (hk : k ≤ 1048576) : ∀ w u, Tab w → Zv A k u w → Calls Tryd.prog 26 #[u] w (Gives (IS (str (txZ A))) w) := by
  rintro w u hT ⟨s, p, n, c, xs, rfl, h, rfl, hn⟩
  by_cases hz : sg s (val xs) < 0
  · exact ztext_m w s p n c xs h (by omega) hT hz
  · exact ztext_p w s p n c xs h (by omega) hT (by omega)
theorem h_rztext {A : Int} {k : Nat} (hk : k ≤ 1048576) : ∀ w u, Zv A k u w → Calls Tryd.prog 28 #[u] w (Gives (IS (str (txZ A))) w) := by
  rintro w u ⟨s, p, n, c, xs, rfl, h, rfl, hn⟩
  by_cases hz : sg s (val xs) < 0
  · exact rztext_m w s p n c xs h (by omega) hz
  · exact rztext_p w s p n c xs h (by omega) (by omega)
end Go.Proofs.YtdhjgekbocnnkaaDoor

/-
  mat.TextVector, mat.Text; the law's alive.
-/
namespace Go.Proofs.YtdhjgekbocnnkaaDoor
open Go Go.RowKit Nt
set_option linter.unusedSimpArgs false
set_option linter.unusedVariables false
set_option maxRecDepth 20000


theorem idx_ss : Idx 48 1 := fun ρ o x y w b k i n c hi hx hy => by
  rw [Nat.one_mul]
  unfold execOp
  go_simp
theorem sto_s1 : Sto 9 1 := fun ρ o x y w b k u hu ht hx hy => by
  obtain ⟨e, h1⟩ := celv1 hu
  obtain ⟨h2, h3⟩ := ht 0 (by decide)
  obtain ⟨v, hv⟩ := Option.isSome_iff_exists.1 h2
  rw [Nat.add_zero] at hv h3
  rw [e]
  simp only [World.setCells]
  clear ht hu h2 e
  cases u <;> first | (simp [Value.oneCell'] at h1; done) | (unfold execOp; go_simp; done) | (unfold execOp; go_simp; rw [run_store _ _ _ _ _ h1]; simp [hv, h3]; done)
theorem run_eqs (ρ : Operand → Value) (o : Oper) (x y : Operand) (w : World) (a : ByteArray) (h1 : ρ x = .string a) (h2 : ρ y = .string a) : (execOp ρ { o with op := .binOp .eql 9 x y 9 }).run Tryd.prog w = .ok (.value (.bool true)) w := by
  unfold execOp
  go_simp
theorem infoS : (Tryd.prog.info? 9).map (fun i => (i.zero, i.size, i.bytes)) = some (some (.string ⟨#[]⟩), 1, 16) := by kernel_rfl

set_option maxHeartbeats 400000 in
theorem eachs_w (w : World) (u f : Value) (n : Nat) (φs : List Pr) (ψs : List (Nat → Pr)) (hl : φs.length = n) (hl' : ψs.length = n) (h : Hs w (Ar 2 n φs) u) (hf : Hs w (Fn1 φs ψs) f) (hS : ∀ (i : Nat) φ, φs[i]? = some φ → Shp 2 φ) (hψ : ∀ (i : Nat) ψ, ψs[i]? = some ψ → Fresh ψ ∧ ∀ lo, Cel 1 (ψ lo)) (hn : n ≤ 1048576) :
    Calls Tryd.prog 25 #[u, f] w (Gives (LF 1 n ψs) w) := by
  refine calls_sta (sl := [(0, (Ar 2 n φs)), (1, (Fn1 φs ψs))]) Tryd.func25 rfl Tryd.ntmps25 (by simp) (args_cons rfl (h) (args_cons rfl (hf) args_nil)) ?_
  intro a0 S0
  refine wp_stmt_seq [.val (Is (.slice none 0 0))] [] [.inl 0, .inr 0, .inr 1] follows S0 rfl (by kernel_rfl) ?_ ?_
  · refine ⟨trivial, ?_⟩
    · exact owe_move rfl (wants_all rfl) (Or.inr rfl) (opnd_const _) rfl
  intro B1 a1 W1 S1
  replace S1 : Sta w 26 [] [(4, (Is (.slice none 0 0))), (0, (Ar 2 n φs)), (1, (Fn1 φs ψs))] B1 a1 W1 := S1
  refine wp_stmt_seq [.val (Ar 2 n φs),
      .val (Is (.int .i64 (n : Nat))),
      .new (.row 9 1 n (CE 1 (List.replicate n (Is (.string ⟨#[]⟩))))),
      .ref 2] [.inl 3] [.inr 0, .inr 1, .inr 2] follows S1 rfl (by kernel_rfl) ?_ ?_
  · refine ⟨⟨⟨⟨trivial, ?_⟩, ?_⟩, ?_⟩, ?_⟩
    · exact owe_move rfl (wants_all rfl) (Or.inl rfl) (opnd_slot 1 0 rfl (by kernel_rfl)) rfl
    · exact owe_len rfl (wants_all rfl) rfl (opnd_op 0 8 (by kernel_rfl) rfl) ar_len Tryd.underlying23 rfl
    · exact owe_makeE rfl (wants_all rfl) rfl Tryd.underlying48 infoS (celv_one rfl) (by decide) (opnd_op 1 9 (by kernel_rfl) rfl) ⟨by omega, by unfold maxLen; omega⟩ rfl
    · exact owe_ref 2 rfl (wants_all rfl) (Or.inr rfl) (by kernel_rfl) rfl rfl
  intro B2 a2 W2 S2
  replace S2 : Sta w 26 [(5, (.row 9 1 n (CE 1 (List.replicate n (Is (.string ⟨#[]⟩))))))] [(4, (Is (.slice none 0 0))), (0, (Ar 2 n φs)), (1, (Fn1 φs ψs))] B2 a2 W2 := S2
  refine wp_seq ?_
  refine wp_stmt_seq [.val (Ar 2 n φs),
      .val (Is (.int .i64 (n : Nat))),
      .val (Is (.int .i64 0))] [.inr 0] [.inl 0, .inl 1, .inl 2, .inr 0, .inr 1, .inr 2] follows S2 rfl (by kernel_rfl) ?_ ?_
  · refine ⟨⟨⟨trivial, ?_⟩, ?_⟩, ?_⟩
    · exact owe_move rfl (wants_all rfl) (Or.inl rfl) (opnd_slot 1 0 rfl (by kernel_rfl)) rfl
    · exact owe_len rfl (wants_all rfl) rfl (opnd_op 0 11 (by kernel_rfl) rfl) ar_len Tryd.underlying23 rfl
    · exact owe_move rfl (wants_all rfl) (Or.inl rfl) (opnd_const _) rfl
  intro B3 a3 W3 S3
  replace S3 : Sta w 26 [(5, (.row 9 1 n (CE 1 (List.replicate n (Is (.string ⟨#[]⟩))))))] [(11, (Ar 2 n φs)), (12, (Is (.int .i64 (n : Nat)))), (13, (Is (.int .i64 0))), (4, (Is (.slice none 0 0))), (0, (Ar 2 n φs)), (1, (Fn1 φs ψs))] B3 a3 W3 := S3
  refine wp_block ?_
  refine wp_loop_ghost (fun (k : Nat) a W => (k ≤ n) ∧ ∃ Bq, Sta w 26 [(5, (.row 9 1 n (CE 1 ((ψs.map (· w.heap.size)).take k ++ List.replicate (n - k) (Is (.string ⟨#[]⟩))))))] [(11, (Ar 2 n φs)), (12, (Is (.int .i64 (n : Nat)))), (13, (Is (.int .i64 k))), (1, (Fn1 φs ψs))] Bq a W) (fun (k : Nat) => n - k) ?_ 0 ⟨Nat.zero_le _, B3, S3.sub [0] [0, 1, 2, 5]⟩
  rintro k a4 W4 ⟨hcond, B4, S4⟩
  by_cases hlt : k < n
  · obtain ⟨φ, hφ⟩ : ∃ φ, φs[k]? = some φ := ⟨φs[k]'(by omega), List.getElem?_eq_getElem _⟩
    obtain ⟨ψ, hψk⟩ : ∃ ψ, ψs[k]? = some ψ := ⟨ψs[k]'(by omega), List.getElem?_eq_getElem _⟩
    have hset := set_next (z := Is (.string ⟨#[]⟩)) (xs := (ψs.map (· w.heap.size))) (n := n) (by simp [hl']) (map_get' (· w.heap.size) hψk)
    refine wp_stmt_seq [.val (Is (.bool true))] [.inr 0] [.inl 0, .inr 0, .inr 1, .inr 2, .inr 3] follows S4 rfl (by kernel_rfl) ?_ ?_
    · refine ⟨trivial, ?_⟩
      · exact owe_bin rfl (wants_all rfl) rfl (opnd_slot 2 13 rfl (by kernel_rfl)) (opnd_slot 1 12 rfl (by kernel_rfl)) rfl (fun ρ w h1 h2 => by exact run_lss_int_t ρ _ _ _ w _ _ (by omega) h1 h2)
    intro B5 a5 W5 S5
    replace S5 : Sta w 26 [(5, (.row 9 1 n (CE 1 ((ψs.map (· w.heap.size)).take k ++ List.replicate (n - k) (Is (.string ⟨#[]⟩))))))] [(14, (Is (.bool true))), (11, (Ar 2 n φs)), (12, (Is (.int .i64 (n : Nat)))), (13, (Is (.int .i64 k))), (1, (Fn1 φs ψs))] B5 a5 W5 := S5
    refine wp_seq ?_
    refine wp_cond_true (S5.bool 0 14 rfl) ?_
    refine wp_skip ?_
    refine thenN ?_
    refine wp_seq ?_
    refine wp_block ?_
    refine wp_stmt_seq [.val (Is (.int .i64 k)),
      .val (AtE 2 φ),
      .val φ,
      .new (.box 36 (Is (.agg #[.bool false, .slice none 0 0]))),
      .val (Is (.int .i64 k)),
      .put (.inr 3) (.box 36 φ)] [.inr 0, .inl 3] [.inl 4, .inr 0, .inr 1, .inr 2, .inr 3, .inr 4] follows S5 rfl (by kernel_rfl) ?_ ?_
    · refine ⟨⟨⟨⟨⟨⟨trivial, ?_⟩, ?_⟩, ?_⟩, ?_⟩, ?_⟩, ?_⟩
      · exact owe_move rfl (wants_all rfl) (Or.inl rfl) (opnd_slot 3 13 rfl (by kernel_rfl)) rfl
      · exact owe_aindex rfl (wants_all rfl) rfl idx_ints (opnd_slot 1 11 rfl (by kernel_rfl)) (opnd_slot 3 13 rfl (by kernel_rfl)) hφ rfl
      · exact owe_aload rfl (wants_all rfl) rfl ldr_int (by decide) (cel_shp (by decide) (hS k φ hφ)) (opnd_op 1 16 (by kernel_rfl) rfl) rfl
      · exact owe_new rfl (wants_all rfl) rfl rfl (fun ρ w => alloc_int ρ _ w)
      · exact owe_move rfl (wants_all rfl) (Or.inr rfl) (opnd_op 0 15 (by kernel_rfl) rfl) rfl
      · exact owe_put 3 rfl (wants_all rfl) rfl (by kernel_rfl) rfl (opnd_op 2 17 (by kernel_rfl) rfl) (stores_of strct_int shp_z0 (hS k φ hφ)) rfl
    intro B6 a6 W6 S6
    replace S6 : Sta w 26 [(5, (.row 9 1 n (CE 1 ((ψs.map (· w.heap.size)).take k ++ List.replicate (n - k) (Is (.string ⟨#[]⟩)))))), (7, (.box 36 φ))] [(6, (Is (.int .i64 k))), (14, (Is (.bool true))), (11, (Ar 2 n φs)), (12, (Is (.int .i64 (n : Nat)))), (13, (Is (.int .i64 k))), (1, (Fn1 φs ψs))] B6 a6 W6 := S6
    refine wp_stmt [.val (Is (a6.eval (.tmp 5))),
      .val (Is (.int .i64 k)),
      .val (Fn1 φs ψs),
      .val φ,
      .val (ψ w.heap.size),
      .val (REt a6 5 (1 * k)),
      .put (.inl 5) (.row 9 1 n (CE 1 ((ψs.map (· w.heap.size)).take (k + 1) ++ List.replicate (n - (k + 1)) (Is (.string ⟨#[]⟩)))))] [.inr 0, .inr 1] [.inr 1, .inr 2, .inr 3, .inr 4, .inr 5] follows S6 rfl (by kernel_rfl) ?_ ?_
    · refine ⟨⟨⟨⟨⟨⟨⟨trivial, ?_⟩, ?_⟩, ?_⟩, ?_⟩, ?_⟩, ?_⟩, ?_⟩
      · exact owe_same rfl (wants_all rfl) (Or.inl rfl) (by kernel_rfl) rfl
      · exact owe_move rfl (wants_all rfl) (Or.inl rfl) (opnd_slot 0 6 rfl (by kernel_rfl)) rfl
      · exact owe_move rfl (wants_all rfl) (Or.inl rfl) (opnd_slot 5 1 rfl (by kernel_rfl)) rfl
      · exact owe_load rfl (wants_all rfl) rfl (k := 1) rfl (by kernel_rfl) (loads_of strct_int (hS k φ hφ)) rfl
      · exact owe_callv1 k rfl (wants_all rfl) rfl (opnd_op 2 20 (by kernel_rfl) rfl) hφ hψk (opnd_op 3 21 (by kernel_rfl) rfl) (hψ k ψ hψk).1 rfl
      · exact owe_rindexE rfl (wants_all rfl) rfl idx_ss (opnd_op 0 18 (by kernel_rfl) rfl) (k := 0) rfl (by kernel_rfl) (opnd_op 1 19 (by kernel_rfl) rfl) hlt rfl
      · exact owe_rstoreE rfl (wants_all rfl) rfl sto_s1 (by decide) (opnd_op 5 23 (by kernel_rfl) rfl) (k := 0) rfl (by kernel_rfl) (opnd_op 4 22 (by kernel_rfl) rfl) ((hψ k ψ hψk).2 _) hlt (by rw [hset]; rfl)
    intro B7 a7 W7 S7
    replace S7 : Sta w 26 [(5, (.row 9 1 n (CE 1 ((ψs.map (· w.heap.size)).take (k + 1) ++ List.replicate (n - (k + 1)) (Is (.string ⟨#[]⟩)))))), (7, (.box 36 φ))] [(14, (Is (.bool true))), (11, (Ar 2 n φs)), (12, (Is (.int .i64 (n : Nat)))), (13, (Is (.int .i64 k))), (1, (Fn1 φs ψs))] B7 a7 W7 := S7
    refine inBlkN ?_
    refine thenN ?_
    refine wp_stmt [.val (Is (.int .i64 (k + 1 : Nat))),
      .val (Is (.int .i64 (k + 1 : Nat)))] [.inr 0, .inr 1] [.inl 1, .inr 0, .inr 1, .inr 2, .inr 4] follows S7 rfl (by kernel_rfl) ?_ ?_
    · refine ⟨⟨trivial, ?_⟩, ?_⟩
      · exact owe_bin rfl (wants_all rfl) rfl (opnd_slot 3 13 rfl (by kernel_rfl)) (opnd_const _) rfl (fun ρ w h1 h2 => by exact run_add_int ρ _ _ _ w _ _ _ ⟨by omega, by omega, by omega⟩ h1 h2)
      · exact owe_move rfl (wants_all rfl) (Or.inl rfl) (opnd_op 0 24 (by kernel_rfl) rfl) rfl
    intro B8 a8 W8 S8
    replace S8 : Sta w 26 [(5, (.row 9 1 n (CE 1 ((ψs.map (· w.heap.size)).take (k + 1) ++ List.replicate (n - (k + 1)) (Is (.string ⟨#[]⟩)))))), (7, (.box 36 φ))] [(13, (Is (.int .i64 (k + 1 : Nat)))), (14, (Is (.bool true))), (11, (Ar 2 n φs)), (12, (Is (.int .i64 (n : Nat)))), (1, (Fn1 φs ψs))] B8 a8 W8 := S8
    refine thenN ?_
    exact ⟨k + 1, ⟨by omega, B8, S8.sub [0] [2, 3, 0, 4]⟩, by omega⟩
  · have hend := fill_end (z := Is (.string ⟨#[]⟩)) (xs := (ψs.map (· w.heap.size))) (n := n) (k := k) (by simp [hl']) (by omega)
    refine wp_stmt_seq [.val (Is (.bool false))] [.inr 0] [.inl 0, .inr 0, .inr 1, .inr 2, .inr 3] follows S4 rfl (by kernel_rfl) ?_ ?_
    · refine ⟨trivial, ?_⟩
      · exact owe_bin rfl (wants_all rfl) rfl (opnd_slot 2 13 rfl (by kernel_rfl)) (opnd_slot 1 12 rfl (by kernel_rfl)) rfl (fun ρ w h1 h2 => by exact run_lss_int_f ρ _ _ _ w _ _ (by omega) h1 h2)
    intro B5 a5 W5 S5
    replace S5 : Sta w 26 [(5, (.row 9 1 n (CE 1 ((ψs.map (· w.heap.size)).take k ++ List.replicate (n - k) (Is (.string ⟨#[]⟩))))))] [(14, (Is (.bool false))), (11, (Ar 2 n φs)), (12, (Is (.int .i64 (n : Nat)))), (13, (Is (.int .i64 k))), (1, (Fn1 φs ψs))] B5 a5 W5 := S5
    refine wp_seq ?_
    refine wp_cond_false (S5.bool 0 14 rfl) ?_
    refine wp_exit ?_
    refine thenX ?_
    refine thenX ?_
    refine inBlkE ?_
    refine thenN ?_
    obtain ⟨B6, S6⟩ : ∃ Bq, Sta w 26 [] [(5, ((LF 1 n ψs) w.heap.size)), (14, (Is (.bool false))), (11, (Ar 2 n φs)), (12, (Is (.int .i64 (n : Nat)))), (13, (Is (.int .i64 k))), (1, (Fn1 φs ψs))] Bq a5 W5 := ⟨_, S5.freeze 0 rfl (by simp) (fun v w' xs ho hc => row_lf (by decide) v w' xs ho (by rw [hend] at hc; exact hc))⟩
    obtain ⟨a6, W6, e1, e2⟩ : ∃ a W, a5 = a ∧ W5 = W := ⟨_, _, rfl, rfl⟩
    rw [e1, e2] at S6 ⊢
    clear e1 e2
    refine wp_stmt_seq [.val ((LF 1 n ψs) w.heap.size),
      .val ((LF 1 n ψs) w.heap.size)] [] [.inl 1, .inr 0, .inr 1, .inr 2, .inr 3, .inr 4, .inr 5] follows S6 rfl (by kernel_rfl) ?_ ?_
    · refine ⟨⟨trivial, ?_⟩, ?_⟩
      · exact owe_move rfl (wants_all rfl) (Or.inl rfl) (opnd_slot 0 5 rfl (by kernel_rfl)) rfl
      · exact owe_move rfl (wants_all rfl) (Or.inr rfl) (opnd_op 0 25 (by kernel_rfl) rfl) rfl
    intro B7 a7 W7 S7
    replace S7 : Sta w 26 [] [(4, ((LF 1 n ψs) w.heap.size)), (5, ((LF 1 n ψs) w.heap.size)), (14, (Is (.bool false))), (11, (Ar 2 n φs)), (12, (Is (.int .i64 (n : Nat)))), (13, (Is (.int .i64 k))), (1, (Fn1 φs ψs))] B7 a7 W7 := S7
    refine wp_ret ?_
    exact end_one S7 rfl (res_tmp S7 0 4 rfl)

set_option maxHeartbeats 400000 in
theorem eachss_w (w : World) (u f : Value) (n : Nat) (φs : List Pr) (ψs : List (Nat → Pr)) (hl : φs.length = n) (hl' : ψs.length = n) (h : Hs w (Ar 1 n φs) u) (hf : Hs w (Fn1 φs ψs) f) (hS : ∀ (i : Nat) φ, φs[i]? = some φ → Cel 1 φ) (hψ : ∀ (i : Nat) ψ, ψs[i]? = some ψ → Fresh ψ ∧ ∀ lo, Cel 1 (ψ lo)) (hn : n ≤ 1048576) :
    Calls Tryd.prog 24 #[u, f] w (Gives (LF 1 n ψs) w) := by
  refine calls_sta (sl := [(0, (Ar 1 n φs)), (1, (Fn1 φs ψs))]) Tryd.func24 rfl Tryd.ntmps24 (by simp) (args_cons rfl (h) (args_cons rfl (hf) args_nil)) ?_
  intro a0 S0
  refine wp_stmt_seq [.val (Is (.slice none 0 0))] [] [.inl 0, .inr 0, .inr 1] follows S0 rfl (by kernel_rfl) ?_ ?_
  · refine ⟨trivial, ?_⟩
    · exact owe_move rfl (wants_all rfl) (Or.inr rfl) (opnd_const _) rfl
  intro B1 a1 W1 S1
  replace S1 : Sta w 26 [] [(4, (Is (.slice none 0 0))), (0, (Ar 1 n φs)), (1, (Fn1 φs ψs))] B1 a1 W1 := S1
  refine wp_stmt_seq [.val (Ar 1 n φs),
      .val (Is (.int .i64 (n : Nat))),
      .new (.row 9 1 n (CE 1 (List.replicate n (Is (.string ⟨#[]⟩))))),
      .ref 2] [.inl 3] [.inr 0, .inr 1, .inr 2] follows S1 rfl (by kernel_rfl) ?_ ?_
  · refine ⟨⟨⟨⟨trivial, ?_⟩, ?_⟩, ?_⟩, ?_⟩
    · exact owe_move rfl (wants_all rfl) (Or.inl rfl) (opnd_slot 1 0 rfl (by kernel_rfl)) rfl
    · exact owe_len rfl (wants_all rfl) rfl (opnd_op 0 8 (by kernel_rfl) rfl) ar_len Tryd.underlying22 rfl
    · exact owe_makeE rfl (wants_all rfl) rfl Tryd.underlying48 infoS (celv_one rfl) (by decide) (opnd_op 1 9 (by kernel_rfl) rfl) ⟨by omega, by unfold maxLen; omega⟩ rfl
    · exact owe_ref 2 rfl (wants_all rfl) (Or.inr rfl) (by kernel_rfl) rfl rfl
  intro B2 a2 W2 S2
  replace S2 : Sta w 26 [(5, (.row 9 1 n (CE 1 (List.replicate n (Is (.string ⟨#[]⟩))))))] [(4, (Is (.slice none 0 0))), (0, (Ar 1 n φs)), (1, (Fn1 φs ψs))] B2 a2 W2 := S2
  refine wp_seq ?_
  refine wp_stmt_seq [.val (Ar 1 n φs),
      .val (Is (.int .i64 (n : Nat))),
      .val (Is (.int .i64 0))] [.inr 0] [.inl 0, .inl 1, .inl 2, .inr 0, .inr 1, .inr 2] follows S2 rfl (by kernel_rfl) ?_ ?_
  · refine ⟨⟨⟨trivial, ?_⟩, ?_⟩, ?_⟩
    · exact owe_move rfl (wants_all rfl) (Or.inl rfl) (opnd_slot 1 0 rfl (by kernel_rfl)) rfl
    · exact owe_len rfl (wants_all rfl) rfl (opnd_op 0 11 (by kernel_rfl) rfl) ar_len Tryd.underlying22 rfl
    · exact owe_move rfl (wants_all rfl) (Or.inl rfl) (opnd_const _) rfl
  intro B3 a3 W3 S3
  replace S3 : Sta w 26 [(5, (.row 9 1 n (CE 1 (List.replicate n (Is (.string ⟨#[]⟩))))))] [(11, (Ar 1 n φs)), (12, (Is (.int .i64 (n : Nat)))), (13, (Is (.int .i64 0))), (4, (Is (.slice none 0 0))), (0, (Ar 1 n φs)), (1, (Fn1 φs ψs))] B3 a3 W3 := S3
  refine wp_block ?_
  refine wp_loop_ghost (fun (k : Nat) a W => (k ≤ n) ∧ ∃ Bq, Sta w 26 [(5, (.row 9 1 n (CE 1 ((ψs.map (· w.heap.size)).take k ++ List.replicate (n - k) (Is (.string ⟨#[]⟩))))))] [(11, (Ar 1 n φs)), (12, (Is (.int .i64 (n : Nat)))), (13, (Is (.int .i64 k))), (1, (Fn1 φs ψs))] Bq a W) (fun (k : Nat) => n - k) ?_ 0 ⟨Nat.zero_le _, B3, S3.sub [0] [0, 1, 2, 5]⟩
  rintro k a4 W4 ⟨hcond, B4, S4⟩
  by_cases hlt : k < n
  · obtain ⟨φ, hφ⟩ : ∃ φ, φs[k]? = some φ := ⟨φs[k]'(by omega), List.getElem?_eq_getElem _⟩
    obtain ⟨ψ, hψk⟩ : ∃ ψ, ψs[k]? = some ψ := ⟨ψs[k]'(by omega), List.getElem?_eq_getElem _⟩
    have hset := set_next (z := Is (.string ⟨#[]⟩)) (xs := (ψs.map (· w.heap.size))) (n := n) (by simp [hl']) (map_get' (· w.heap.size) hψk)
    refine wp_stmt_seq [.val (Is (.bool true))] [.inr 0] [.inl 0, .inr 0, .inr 1, .inr 2, .inr 3] follows S4 rfl (by kernel_rfl) ?_ ?_
    · refine ⟨trivial, ?_⟩
      · exact owe_bin rfl (wants_all rfl) rfl (opnd_slot 2 13 rfl (by kernel_rfl)) (opnd_slot 1 12 rfl (by kernel_rfl)) rfl (fun ρ w h1 h2 => by exact run_lss_int_t ρ _ _ _ w _ _ (by omega) h1 h2)
    intro B5 a5 W5 S5
    replace S5 : Sta w 26 [(5, (.row 9 1 n (CE 1 ((ψs.map (· w.heap.size)).take k ++ List.replicate (n - k) (Is (.string ⟨#[]⟩))))))] [(14, (Is (.bool true))), (11, (Ar 1 n φs)), (12, (Is (.int .i64 (n : Nat)))), (13, (Is (.int .i64 k))), (1, (Fn1 φs ψs))] B5 a5 W5 := S5
    refine wp_seq ?_
    refine wp_cond_true (S5.bool 0 14 rfl) ?_
    refine wp_skip ?_
    refine thenN ?_
    refine wp_seq ?_
    refine wp_block ?_
    refine wp_stmt_seq [.val (Is (.int .i64 k)),
      .val (AtE 1 φ),
      .val φ,
      .val (Is (.int .i64 k)),
      .val φ] [.inr 0] [.inl 3, .inl 4, .inr 0, .inr 1, .inr 2, .inr 3, .inr 4] follows S5 rfl (by kernel_rfl) ?_ ?_
    · refine ⟨⟨⟨⟨⟨trivial, ?_⟩, ?_⟩, ?_⟩, ?_⟩, ?_⟩
      · exact owe_move rfl (wants_all rfl) (Or.inl rfl) (opnd_slot 3 13 rfl (by kernel_rfl)) rfl
      · exact owe_aindex rfl (wants_all rfl) rfl idx_rows (opnd_slot 1 11 rfl (by kernel_rfl)) (opnd_slot 3 13 rfl (by kernel_rfl)) hφ rfl
      · exact owe_aload rfl (wants_all rfl) rfl ldr_row1 (by decide) (hS k φ hφ) (opnd_op 1 16 (by kernel_rfl) rfl) rfl
      · exact owe_move rfl (wants_all rfl) (Or.inr rfl) (opnd_op 0 15 (by kernel_rfl) rfl) rfl
      · exact owe_move rfl (wants_all rfl) (Or.inr rfl) (opnd_op 2 17 (by kernel_rfl) rfl) rfl
    intro B6 a6 W6 S6
    replace S6 : Sta w 26 [(5, (.row 9 1 n (CE 1 ((ψs.map (· w.heap.size)).take k ++ List.replicate (n - k) (Is (.string ⟨#[]⟩))))))] [(6, (Is (.int .i64 k))), (7, φ), (14, (Is (.bool true))), (11, (Ar 1 n φs)), (12, (Is (.int .i64 (n : Nat)))), (13, (Is (.int .i64 k))), (1, (Fn1 φs ψs))] B6 a6 W6 := S6
    refine wp_stmt [.val (Is (a6.eval (.tmp 5))),
      .val (Is (.int .i64 k)),
      .val (Fn1 φs ψs),
      .val φ,
      .val (ψ w.heap.size),
      .val (REt a6 5 (1 * k)),
      .put (.inl 5) (.row 9 1 n (CE 1 ((ψs.map (· w.heap.size)).take (k + 1) ++ List.replicate (n - (k + 1)) (Is (.string ⟨#[]⟩)))))] [.inr 0] [.inr 2, .inr 3, .inr 4, .inr 5, .inr 6] follows S6 rfl (by kernel_rfl) ?_ ?_
    · refine ⟨⟨⟨⟨⟨⟨⟨trivial, ?_⟩, ?_⟩, ?_⟩, ?_⟩, ?_⟩, ?_⟩, ?_⟩
      · exact owe_same rfl (wants_all rfl) (Or.inl rfl) (by kernel_rfl) rfl
      · exact owe_move rfl (wants_all rfl) (Or.inl rfl) (opnd_slot 0 6 rfl (by kernel_rfl)) rfl
      · exact owe_move rfl (wants_all rfl) (Or.inl rfl) (opnd_slot 6 1 rfl (by kernel_rfl)) rfl
      · exact owe_move rfl (wants_all rfl) (Or.inl rfl) (opnd_slot 1 7 rfl (by kernel_rfl)) rfl
      · exact owe_callv1 k rfl (wants_all rfl) rfl (opnd_op 2 20 (by kernel_rfl) rfl) hφ hψk (opnd_op 3 21 (by kernel_rfl) rfl) (hψ k ψ hψk).1 rfl
      · exact owe_rindexE rfl (wants_all rfl) rfl idx_ss (opnd_op 0 18 (by kernel_rfl) rfl) (k := 0) rfl (by kernel_rfl) (opnd_op 1 19 (by kernel_rfl) rfl) hlt rfl
      · exact owe_rstoreE rfl (wants_all rfl) rfl sto_s1 (by decide) (opnd_op 5 23 (by kernel_rfl) rfl) (k := 0) rfl (by kernel_rfl) (opnd_op 4 22 (by kernel_rfl) rfl) ((hψ k ψ hψk).2 _) hlt (by rw [hset]; rfl)
    intro B7 a7 W7 S7
    replace S7 : Sta w 26 [(5, (.row 9 1 n (CE 1 ((ψs.map (· w.heap.size)).take (k + 1) ++ List.replicate (n - (k + 1)) (Is (.string ⟨#[]⟩))))))] [(14, (Is (.bool true))), (11, (Ar 1 n φs)), (12, (Is (.int .i64 (n : Nat)))), (13, (Is (.int .i64 k))), (1, (Fn1 φs ψs))] B7 a7 W7 := S7
    refine inBlkN ?_
    refine thenN ?_
    refine wp_stmt [.val (Is (.int .i64 (k + 1 : Nat))),
      .val (Is (.int .i64 (k + 1 : Nat)))] [.inr 0] [.inl 1, .inr 0, .inr 1, .inr 2, .inr 4] follows S7 rfl (by kernel_rfl) ?_ ?_
    · refine ⟨⟨trivial, ?_⟩, ?_⟩
      · exact owe_bin rfl (wants_all rfl) rfl (opnd_slot 3 13 rfl (by kernel_rfl)) (opnd_const _) rfl (fun ρ w h1 h2 => by exact run_add_int ρ _ _ _ w _ _ _ ⟨by omega, by omega, by omega⟩ h1 h2)
      · exact owe_move rfl (wants_all rfl) (Or.inl rfl) (opnd_op 0 24 (by kernel_rfl) rfl) rfl
    intro B8 a8 W8 S8
    replace S8 : Sta w 26 [(5, (.row 9 1 n (CE 1 ((ψs.map (· w.heap.size)).take (k + 1) ++ List.replicate (n - (k + 1)) (Is (.string ⟨#[]⟩))))))] [(13, (Is (.int .i64 (k + 1 : Nat)))), (14, (Is (.bool true))), (11, (Ar 1 n φs)), (12, (Is (.int .i64 (n : Nat)))), (1, (Fn1 φs ψs))] B8 a8 W8 := S8
    refine thenN ?_
    exact ⟨k + 1, ⟨by omega, B8, S8.sub [0] [2, 3, 0, 4]⟩, by omega⟩
  · have hend := fill_end (z := Is (.string ⟨#[]⟩)) (xs := (ψs.map (· w.heap.size))) (n := n) (k := k) (by simp [hl']) (by omega)
    refine wp_stmt_seq [.val (Is (.bool false))] [.inr 0] [.inl 0, .inr 0, .inr 1, .inr 2, .inr 3] follows S4 rfl (by kernel_rfl) ?_ ?_
    · refine ⟨trivial, ?_⟩
      · exact owe_bin rfl (wants_all rfl) rfl (opnd_slot 2 13 rfl (by kernel_rfl)) (opnd_slot 1 12 rfl (by kernel_rfl)) rfl (fun ρ w h1 h2 => by exact run_lss_int_f ρ _ _ _ w _ _ (by omega) h1 h2)
    intro B5 a5 W5 S5
    replace S5 : Sta w 26 [(5, (.row 9 1 n (CE 1 ((ψs.map (· w.heap.size)).take k ++ List.replicate (n - k) (Is (.string ⟨#[]⟩))))))] [(14, (Is (.bool false))), (11, (Ar 1 n φs)), (12, (Is (.int .i64 (n : Nat)))), (13, (Is (.int .i64 k))), (1, (Fn1 φs ψs))] B5 a5 W5 := S5
    refine wp_seq ?_
    refine wp_cond_false (S5.bool 0 14 rfl) ?_
    refine wp_exit ?_
    refine thenX ?_
    refine thenX ?_
    refine inBlkE ?_
    refine thenN ?_
    obtain ⟨B6, S6⟩ : ∃ Bq, Sta w 26 [] [(5, ((LF 1 n ψs) w.heap.size)), (14, (Is (.bool false))), (11, (Ar 1 n φs)), (12, (Is (.int .i64 (n : Nat)))), (13, (Is (.int .i64 k))), (1, (Fn1 φs ψs))] Bq a5 W5 := ⟨_, S5.freeze 0 rfl (by simp) (fun v w' xs ho hc => row_lf (by decide) v w' xs ho (by rw [hend] at hc; exact hc))⟩
    obtain ⟨a6, W6, e1, e2⟩ : ∃ a W, a5 = a ∧ W5 = W := ⟨_, _, rfl, rfl⟩
    rw [e1, e2] at S6 ⊢
    clear e1 e2
    refine wp_stmt_seq [.val ((LF 1 n ψs) w.heap.size),
      .val ((LF 1 n ψs) w.heap.size)] [] [.inl 1, .inr 0, .inr 1, .inr 2, .inr 3, .inr 4, .inr 5] follows S6 rfl (by kernel_rfl) ?_ ?_
    · refine ⟨⟨trivial, ?_⟩, ?_⟩
      · exact owe_move rfl (wants_all rfl) (Or.inl rfl) (opnd_slot 0 5 rfl (by kernel_rfl)) rfl
      · exact owe_move rfl (wants_all rfl) (Or.inr rfl) (opnd_op 0 25 (by kernel_rfl) rfl) rfl
    intro B7 a7 W7 S7
    replace S7 : Sta w 26 [] [(4, ((LF 1 n ψs) w.heap.size)), (5, ((LF 1 n ψs) w.heap.size)), (14, (Is (.bool false))), (11, (Ar 1 n φs)), (12, (Is (.int .i64 (n : Nat)))), (13, (Is (.int .i64 k))), (1, (Fn1 φs ψs))] B7 a7 W7 := S7
    refine wp_ret ?_
    exact end_one S7 rfl (res_tmp S7 0 4 rfl)

theorem fresh_strs {α : Type} {f : α → Value} {n : Nat} {l : List α} : Fresh (LF 1 n (l.map (fun a => IS (f a)))) := fresh_lf (by decide) (fun i ψ h => by obtain ⟨x, _, rfl⟩ := map_get h; exact fresh_is _)
theorem strs_ar {α : Type} {f : α → List UInt8} {n lo : Nat} {l : List α} : ∀ v w, LF 1 n (l.map (fun a => IS (str (f a)))) lo v w → Ar 1 n ((l.map f).map (fun x => Is (str x))) v w := fun v w h => by
  have := lf_ar v w h
  simp only [List.map_map] at this ⊢
  exact this
theorem h_eachs {n k : Nat} {As : List Int} (hn : n ≤ 1048576) : ∀ w u f, Hs w (Vv n As k) u → Hs w (Fn1 (As.map (fun z => Zv z k)) (As.map (fun a => IS (str (txZ a))))) f → Calls Tryd.prog 25 #[u, f] w (Gives (LF 1 n (As.map (fun a => IS (str (txZ a))))) w) := fun w u f hu hf => by
  obtain ⟨p, c, _, hl, _⟩ := hu.now
  have hl' : As.length = n := by simpa using hl
  exact eachs_w w u f n _ _ (by simp [hl']) (by simp [hl']) hu hf (fun i φ h => by obtain ⟨a, _, rfl⟩ := map_get h; exact shp_zv) (fun i ψ h => by obtain ⟨a, _, rfl⟩ := map_get h; exact ⟨fresh_is _, fun lo => cel_is rfl⟩) hn
theorem h_eachss {n k : Nat} {A : List (List Int)} (hn : n ≤ 1048576) : ∀ w u f, Hs w (Mv n A k) u → Hs w (Fn1 (A.map (fun r => Vv r.length r k)) (A.map (fun r => IS (str (txV r))))) f → Calls Tryd.prog 24 #[u, f] w (Gives (LF 1 n (A.map (fun r => IS (str (txV r))))) w) := fun w u f hu hf => by
  obtain ⟨p, c, _, hl, _⟩ := hu.now
  have hl' : A.length = n := by simpa using hl
  exact eachss_w w u f n _ _ (by simp [hl']) (by simp [hl']) hu hf (fun i φ h => by obtain ⟨a, _, rfl⟩ := map_get h; exact cel_ar) (fun i ψ h => by obtain ⟨a, _, rfl⟩ := map_get h; exact ⟨fresh_is _, fun lo => cel_is rfl⟩) hn
theorem fn1_mapT {α : Type} {f : Nat} {φ : α → Pr} {G : α → Nat → Pr} {As : List α} (hcf : ∀ args w, (callFunc f args).run Tryd.prog w = .ok (.enter f args) w) (C : ∀ a, a ∈ As → ∀ w u, Tab w → Hs w (φ a) u → Calls Tryd.prog f #[u] w (Gives (G a) w)) : ∀ v w, TP (Is (.func (.func f) #[] #[])) v w → Fn1 (As.map φ) (As.map G) v w :=
  is_fn1T hcf (fun i φ ψ h1 h2 w u hT hu => by
    obtain ⟨a, ha, rfl⟩ := map_get h1
    obtain ⟨b, hb, rfl⟩ := map_get h2
    rw [ha] at hb
    cases hb
    exact C a (List.mem_of_getElem? ha) w u hT hu)

set_option maxHeartbeats 400000 in
theorem textv_w (w : World) (u : Value) (n k : Nat) (As : List Int) (h : Hs w (Vv n As k) u) (hn : n ≤ 1048576) (hk : k ≤ 1048576) (hT : Tab w) (hlen : (txV As).length ≤ 140737488355328) :
    Calls Tryd.prog 9 #[u] w (Gives (IS (str (txV As))) w) := by
  have hlA := vv_len h.now
  refine calls_sta (sl := [(0, (Vv n As k))]) Tryd.func9 rfl Tryd.ntmps9 (by simp) (args_cons rfl (h) args_nil) ?_
  intro a0 S0
  replace S0 : Sta w 6 [] [(0, (Vv n As k)), (1000001, TT)] (fun _ => False) a0 w := S0.moreT 1000001 (tt_has hT)
  refine wp_stmt_seq [.val (Is (.string (ByteArray.mk #[])))] [] [.inl 0, .inr 0, .inr 1] follows S0 rfl (by kernel_rfl) ?_ ?_
  · refine ⟨trivial, ?_⟩
    · exact owe_move rfl (wants_all rfl) (Or.inr rfl) (opnd_const _) rfl
  intro B1 a1 W1 S1
  replace S1 : Sta w 6 [] [(2, (Is (.string (ByteArray.mk #[])))), (0, (Vv n As k)), (1000001, TT)] B1 a1 W1 := S1
  refine wp_stmt_seq [.val (Vv n As k),
      .val ((LF 1 n (As.map (fun a => IS (str (txZ a))))) w.heap.size),
      .val (Is (str (Lib.join (As.map txZ) [32]))),
      .val (Is (str (Lib.join (As.map txZ) [32])))] [] [.inl 3, .inr 2] follows S1 rfl (by kernel_rfl) ?_ ?_
  · refine ⟨⟨⟨⟨trivial, ?_⟩, ?_⟩, ?_⟩, ?_⟩
    · exact owe_move rfl (wants_all rfl) (Or.inl rfl) (opnd_slot 1 0 rfl (by kernel_rfl)) rfl
    · exact owe_callh2 rfl (wants_all rfl) rfl (opnd_op 0 3 (by kernel_rfl) rfl) ((opnd_tp (opnd_func _) (opnd_slot 2 1000001 rfl (by kernel_rfl))).imp (fn1_mapT (fun args w => by go_simp) (fun a _ w u hT hu => h_ztext hk w u hT hu.now))) fresh_strs rfl (fun args w => by go_simp) (h_eachs hn)
    · exact owe_callh2 rfl (wants_all rfl) rfl ((opnd_op 1 4 (by kernel_rfl) rfl).imp strs_ar) ((opnd_const _).imp (fun _ _ h => h)) (fresh_is _) rfl (fun args w => by go_simp) (g_join (As.map txZ) [32] (by simp [hlA]) (by omega) hlen)
    · exact owe_move rfl (wants_all rfl) (Or.inr rfl) (opnd_op 2 5 (by kernel_rfl) rfl) rfl
  intro B2 a2 W2 S2
  replace S2 : Sta w 6 [] [(2, (Is (str (Lib.join (As.map txZ) [32])))), (1000001, TT)] B2 a2 W2 := S2
  refine wp_ret ?_
  exact end_one S2 rfl (res_tmp S2 0 2 rfl)

set_option maxHeartbeats 400000 in
theorem text_w (w : World) (u : Value) (n k : Nat) (A : List (List Int)) (h : Hs w (Mv n A k) u) (hn : n ≤ 1048576) (hk : k ≤ 1048576) (hl : Ml A 1048576) (hT : Tab w) (hlr : ∀ r, r ∈ A → (txV r).length ≤ 140737488355328) (hlen : (txM A).length ≤ 140737488355328) :
    Calls Tryd.prog 6 #[u] w (Gives (IS (str (txM A))) w) := by
  have hlA := mv_len h.now
  refine calls_sta (sl := [(0, (Mv n A k))]) Tryd.func6 rfl Tryd.ntmps6 (by simp) (args_cons rfl (h) args_nil) ?_
  intro a0 S0
  replace S0 : Sta w 6 [] [(0, (Mv n A k)), (1000001, TT)] (fun _ => False) a0 w := S0.moreT 1000001 (tt_has hT)
  refine wp_stmt_seq [.val (Is (.string (ByteArray.mk #[])))] [] [.inl 0, .inr 0, .inr 1] follows S0 rfl (by kernel_rfl) ?_ ?_
  · refine ⟨trivial, ?_⟩
    · exact owe_move rfl (wants_all rfl) (Or.inr rfl) (opnd_const _) rfl
  intro B1 a1 W1 S1
  replace S1 : Sta w 6 [] [(2, (Is (.string (ByteArray.mk #[])))), (0, (Mv n A k)), (1000001, TT)] B1 a1 W1 := S1
  refine wp_stmt_seq [.val (Mv n A k),
      .val ((LF 1 n (A.map (fun a => IS (str (txV a))))) w.heap.size),
      .val (Is (str (Lib.join (A.map txV) [59, 32]))),
      .val (Is (str (Lib.join (A.map txV) [59, 32])))] [] [.inl 3, .inr 2] follows S1 rfl (by kernel_rfl) ?_ ?_
  · refine ⟨⟨⟨⟨trivial, ?_⟩, ?_⟩, ?_⟩, ?_⟩
    · exact owe_move rfl (wants_all rfl) (Or.inl rfl) (opnd_slot 1 0 rfl (by kernel_rfl)) rfl
    · exact owe_callh2 rfl (wants_all rfl) rfl (opnd_op 0 3 (by kernel_rfl) rfl) ((opnd_tp (opnd_func _) (opnd_slot 2 1000001 rfl (by kernel_rfl))).imp (fn1_mapT (φ := fun r => Vv r.length r k) (fun args w => by go_simp) (fun r hr w u hT hu => textv_w w u r.length k r hu (by obtain ⟨i, hi⟩ := List.mem_iff_getElem?.1 hr; exact hl i r hi) hk hT (hlr r hr)))) fresh_strs rfl (fun args w => by go_simp) (h_eachss hn)
    · exact owe_callh2 rfl (wants_all rfl) rfl ((opnd_op 1 4 (by kernel_rfl) rfl).imp strs_ar) ((opnd_const _).imp (fun _ _ h => h)) (fresh_is _) rfl (fun args w => by go_simp) (g_join (A.map txV) [59, 32] (by simp [hlA]) (by omega) hlen)
    · exact owe_move rfl (wants_all rfl) (Or.inr rfl) (opnd_op 2 5 (by kernel_rfl) rfl) rfl
  intro B2 a2 W2 S2
  replace S2 : Sta w 6 [] [(2, (Is (str (Lib.join (A.map txV) [59, 32])))), (1000001, TT)] B2 a2 W2 := S2
  refine wp_ret ?_
  exact end_one S2 rfl (res_tmp S2 0 2 rfl)

set_option maxHeartbeats 400000 in
theorem alive_w (w : World) (hT : Tab w) :
    Calls Tryd.prog 12 #[] w (Gives (IS (.bool true)) w) := by
  have hD : Mdl (unitZ 2) 1 := by
      intro i zs hz j z hj
      have hm : zs ∈ unitZ 2 := List.mem_of_getElem? hz
      have hm2 : z ∈ zs := List.mem_of_getElem? hj
      have : ∀ zs ∈ unitZ 2, ∀ z ∈ zs, (digs z.natAbs).length ≤ 1 := by decide
      exact this zs hm z hm2
  have hu2 : unitZ 2 = [[1, 0], [0, 1]] := by decide
  have hx : str (txM (unitZ 2)) = .string ⟨#[49, 32, 48, 59, 32, 48, 32, 49]⟩ := by rw [hu2, tx_unit]; rfl
  have hq1 : (txM (unitZ 2)).length ≤ 140737488355328 := by rw [hu2, tx_unit]; decide
  have hq3 : Ml (unitZ 2) 1048576 := by
      intro i es he
      have : ∀ es ∈ unitZ 2, es.length ≤ 1048576 := by decide
      exact this es (List.mem_of_getElem? he)
  have hq2 : ∀ r, r ∈ unitZ 2 → (txV r).length ≤ 140737488355328 := by
      intro r hr
      rw [hu2] at hr
      simp at hr
      rcases hr with rfl | rfl <;> simp [txV, txZ, txN_0, txN_1, Lib.join, List.intercalate, List.intersperse]
  refine calls_sta (sl := []) Tryd.func12 rfl Tryd.ntmps12 (by simp) args_nil ?_
  intro a0 S0
  replace S0 : Sta w 10 [] [(1000001, TT)] (fun _ => False) a0 w := S0.moreT 1000001 (tt_has hT)
  refine wp_stmt_seq [.val (Is (.bool false))] [] [.inl 0, .inr 0] follows S0 rfl (by kernel_rfl) ?_ ?_
  · refine ⟨trivial, ?_⟩
    · exact owe_move rfl (wants_all rfl) (Or.inr rfl) (opnd_const _) rfl
  intro B1 a1 W1 S1
  replace S1 : Sta w 10 [] [(0, (Is (.bool false))), (1000001, TT)] B1 a1 W1 := S1
  refine wp_stmt_seq [.val ((TWO (MN 2 (unitZ 2)) (IS (.int .i64 0))) w.heap.size),
      .val ((TWO (MN 2 (unitZ 2)) (IS (.int .i64 0))) w.heap.size),
      .val ((MN 2 (unitZ 2)) w.heap.size),
      .val (Is (.int .i64 0)),
      .val ((MN 2 (unitZ 2)) w.heap.size),
      .val (Is (.int .i64 0))] [] [.inl 4, .inr 0, .inr 1] follows S1 rfl (by kernel_rfl) ?_ ?_
  · refine ⟨⟨⟨⟨⟨⟨trivial, ?_⟩, ?_⟩, ?_⟩, ?_⟩, ?_⟩, ?_⟩
    · exact owe_callh1 rfl (wants_all rfl) rfl (opnd_const _) (fresh_two fresh_mn (fresh_is _)) rfl (fun args w => by go_simp) (fun w u h => by obtain rfl : u = _ := h.now; exact unit_y w 2 (by decide))
    · exact owe_move rfl (wants_all rfl) (Or.inl rfl) (opnd_op 0 4 (by kernel_rfl) rfl) rfl
    · exact owe_ext2 rfl (wants_all rfl) rfl (opnd_op 1 3 (by kernel_rfl) rfl) (Or.inl ⟨rfl, rfl⟩) rfl
    · exact owe_ext2 rfl (wants_all rfl) rfl (opnd_op 1 3 (by kernel_rfl) rfl) (Or.inr ⟨rfl, rfl⟩) rfl
    · exact owe_move rfl (wants_all rfl) (Or.inr rfl) (opnd_op 2 5 (by kernel_rfl) rfl) rfl
    · exact owe_move rfl (wants_all rfl) (Or.inr rfl) (opnd_op 3 6 (by kernel_rfl) rfl) rfl
  intro B2 a2 W2 S2
  replace S2 : Sta w 10 [] [(1, ((MN 2 (unitZ 2)) w.heap.size)), (0, (Is (.bool false))), (1000001, TT)] B2 a2 W2 := S2
  refine wp_stmt_seq [.val ((MN 2 (unitZ 2)) w.heap.size),
      .val (Is (str (txM (unitZ 2)))),
      .val (Is (.bool true)),
      .val (Is (.bool true))] [] [.inl 3, .inr 2] follows S2 rfl (by kernel_rfl) ?_ ?_
  · refine ⟨⟨⟨⟨trivial, ?_⟩, ?_⟩, ?_⟩, ?_⟩
    · exact owe_move rfl (wants_all rfl) (Or.inl rfl) (opnd_slot 0 1 rfl (by kernel_rfl)) rfl
    · exact owe_callh1 rfl (wants_all rfl) rfl (opnd_tp ((opnd_op 0 7 (by kernel_rfl) rfl).imp (mn_mv hD)) (opnd_slot 2 1000001 rfl (by kernel_rfl))) (fresh_is _) rfl (fun args w => by go_simp) (fun w u h => text_w w u 2 1 (unitZ 2) (tp_out h).1 (by decide) (by decide) hq3 (tp_out h).2 hq2 hq1)
    · exact owe_bin rfl (wants_all rfl) rfl (opnd_op 1 8 (by kernel_rfl) rfl) (opnd_const _) rfl (fun ρ w h1 h2 => by rw [hx] at h1; exact run_eqs ρ _ _ _ w _ h1 h2)
    · exact owe_move rfl (wants_all rfl) (Or.inr rfl) (opnd_op 2 9 (by kernel_rfl) rfl) rfl
  intro B3 a3 W3 S3
  replace S3 : Sta w 10 [] [(0, (Is (.bool true))), (1000001, TT)] B3 a3 W3 := S3
  refine wp_ret ?_
  exact end_one S3 rfl (res_tmp S3 0 0 rfl)

end Go.Proofs.YtdhjgekbocnnkaaDoor
