/-
  math/bits.TrailingZeros32 over its table; zint.noughts; calls that read the table.
-/
import Derived.Shelf.Spec.TrailingZeros
import Derived.Lib.LaidTab
import Derived.Test.YtoplejeljmpcpaaDoorRTwo
import Derived.Test.YtoplejeljmpcpaaDoorZSmall
namespace Go.Proofs.YtoplejeljmpcpaaDoor
open Go Go.RowKit Nt
set_option linter.unusedSimpArgs false
set_option linter.unusedVariables false
set_option maxRecDepth 20000

/-- The library's table, as numbers. -/
def tz32 : List Int := [0, 1, 28, 2, 29, 14, 24, 3, 30, 22, 20, 15, 25, 17, 4, 8, 31, 27, 13, 23, 21, 19, 16, 7, 26, 12, 18, 6, 11, 5, 10, 9]
/-- The library's table lies where the program lays it. -/
def T32 (w : World) : Prop := Lib.TabIs Tryd.prog w "math/bits.deBruijn32tab" .u8 tz32
theorem gTz : Tryd.prog.globalNamed "math/bits.deBruijn32tab" = some 0 := by kernel_rfl
theorem gTzType : (Tryd.prog.globals[0]?).map (·.type) = some 88 := by kernel_rfl
theorem t32_ev {w w' : World} (h : T32 w) (e : Ev (fun _ => False) w w') : T32 w' := by
  unfold T32 Lib.TabIs World.var? at *
  rw [gTz] at h ⊢
  simp only [Option.bind_some] at h ⊢
  cases hw : w.heap[0]? with
  | none => rw [hw] at h; cases h
  | some o =>
    rw [e.block _ (Array.getElem?_eq_some_iff.1 hw).1 (fun h => h)]
    rw [hw] at h ⊢
    exact h
theorem t32_of_vars {W : World} : ∀ (laid : List (String × DataW Unit)) (ps : List MemPlace), DataW.LaidVars Tryd.prog W laid ps → ("math/bits.deBruijn32tab", Lib.tabData .u8 tz32) ∈ laid → T32 W
  | [], _, _, h => by cases h
  | (n, d) :: r, ps, h, hm => by
    obtain ⟨g, t, cs, fuel, p, q, hg, ht, hv, hd, hr, _⟩ := h
    rcases List.mem_cons.1 hm with e | e
    · cases e
      obtain rfl := Option.some.inj (gTz.symm.trans hg)
      obtain rfl := Option.some.inj (gTzType.symm.trans ht)
      unfold T32 Lib.TabIs
      rw [hv, ← Lib.cells_of_tab Tryd.underlying88 Tryd.underlying5 (by kernel_rfl) (by kernel_rfl) hd]
    · exact t32_of_vars r q hr e
theorem t32_of_laid {W : World} {laid : List (String × DataW Unit)} (h : laidMet Tryd.prog laid W) (hm : ("math/bits.deBruijn32tab", Lib.tabData .u8 tz32) ∈ laid) : T32 W := by
  obtain ⟨ps, h1, _⟩ := h
  exact t32_of_vars laid ps h1 hm
theorem t32_at {w : World} (h : T32 w) : TabAt 0 Lib.deBruijn32tab w := by
  intro j hj
  have := Lib.TabIs.cell h gTz j (by exact hj)
  rw [this]
  congr 2
  have : ∀ j, j < 32 → tz32.getD j 0 = ((Lib.deBruijn32tab.getD j 0 : Nat) : Int) := by decide
  exact this j hj

set_option maxHeartbeats 1000000 in
theorem tz_core (x k idx : Nat) (w : World) (hx0 : ((x : Int) == 0) = false)
    (key : bits BinOp.and IntKind.u32 (x : Int) (-(x : Int) % 4294967296) * 125613361 % 4294967296 / 134217728 = (idx : Int))
    (hi : idx < 32) (hk : k < 32) (hcell : w.cell? ⟨0, idx, none⟩ = some (.int .u8 k)) :
    Calls Tryd.prog 67 #[.int .u32 x] w fun e w' => e = .returned (.int .i64 k) ∧ w' = w := by
  go_enter Tryd.func67, Tryd.ntmps67
  go_wp2_with (simp only [key])
  go_ret
  exact ⟨rfl, rfl⟩
theorem tz_c (x : Nat) (hx : x < 4294967296) (hx0 : x ≠ 0) (w : World) (hT : T32 w) :
    Calls Tryd.prog 67 #[.int .u32 x] w fun e w' => e = .returned (.int .i64 (Lib.ctz 32 x)) ∧ w' = w := by
  obtain ⟨hlow, hk⟩ := Lib.lowest_bit 32 x hx0 hx
  obtain ⟨hi, htab⟩ := Lib.deBruijn32_at _ hk
  have hcell := t32_at hT _ hi
  rw [htab] at hcell
  exact tz_core x _ _ w (by simp; omega) (tz32_key x _ hx hx0 hlow) hi hk hcell

/-- How many binary noughts stand below the lowest 1; 0 of 0. -/
def tz (v : Nat) : Nat := if v = 0 then 0 else Lib.ctzFrom v v
theorem odd_pow {a b m k : Nat} (h : 2 ^ a * (2 * m + 1) = 2 ^ b * (2 * k + 1)) (hl : a < b) : False := by
  obtain ⟨d, rfl⟩ : ∃ d, b = a + (d + 1) := ⟨b - a - 1, by omega⟩
  rw [Nat.pow_add, Nat.mul_assoc] at h
  have h2 := Nat.eq_of_mul_eq_mul_left (Nat.pow_pos (by omega)) h
  rw [Nat.pow_succ, Nat.mul_comm (2 ^ d) 2, Nat.mul_assoc] at h2
  omega
theorem tz_is {v z m : Nat} (h : v = 2 ^ z * (2 * m + 1)) : tz v = z := by
  have hv : 0 < v := by rw [h]; exact Nat.mul_pos (Nat.pow_pos (by omega)) (by omega)
  unfold tz
  rw [if_neg (by omega)]
  obtain ⟨k, hk, _⟩ := Lib.ctzFrom_spec v v hv Nat.lt_two_pow_self
  generalize Lib.ctzFrom v v = y at hk
  rw [h] at hk
  rcases Nat.lt_trichotomy z y with hl | hl | hl
  · exact absurd hl (fun hl => odd_pow hk hl)
  · exact hl.symm
  · exact absurd hl (fun hl => odd_pow hk.symm hl)
theorem tz_spec {v : Nat} (h : v ≠ 0) : ∃ m, v = 2 ^ tz v * (2 * m + 1) := by
  obtain ⟨k, hk, _⟩ := Lib.ctzFrom_spec v v (by omega) Nat.lt_two_pow_self
  refine ⟨k, ?_⟩
  unfold tz
  rw [if_neg h]
  exact hk
theorem tz_ge {v e : Nat} (h : v ≠ 0) : e ≤ tz v ↔ v % 2 ^ e = 0 := by
  obtain ⟨m, hm⟩ := tz_spec h
  constructor
  · intro hl
    obtain ⟨d, hd⟩ : ∃ d, tz v = e + d := ⟨tz v - e, by omega⟩
    rw [hm, hd, Nat.pow_add, Nat.mul_assoc]
    exact Nat.mul_mod_right _ _
  · intro h0
    apply Classical.byContradiction
    intro hc
    obtain ⟨d, hd⟩ : ∃ d, e = tz v + (d + 1) := ⟨e - tz v - 1, by omega⟩
    obtain ⟨q, hq⟩ := Nat.dvd_of_mod_eq_zero h0
    rw [hd] at hq
    generalize tz v = z at hm hq
    rw [hm, Nat.pow_add, Nat.mul_assoc] at hq
    have h2 := Nat.eq_of_mul_eq_mul_left (Nat.pow_pos (by omega)) hq
    rw [Nat.pow_succ, Nat.mul_comm (2 ^ d) 2, Nat.mul_assoc] at h2
    omega
theorem tz_le {v : Nat} (h : v ≠ 0) : 2 ^ tz v ≤ v := by
  obtain ⟨m, hm⟩ := tz_spec h
  generalize tz v = z at hm ⊢
  rw [hm]
  exact Nat.le_mul_of_pos_right _ (by omega)
/-- The limbs below are 0, this one is not. -/
theorem tz_limb {xs : List Nat} {k x : Nat} (hk : k < xs.length) (h0 : val (xs.take k) = 0) (hx : xs.getD k 0 = x) (hx0 : x ≠ 0) (hxb : x < 4294967296) : tz (val xs) = 32 * k + Lib.ctz 32 x := by
  have hs : val xs = val (xs.take k) + 4294967296 ^ k * (x + 4294967296 * val (xs.drop (k + 1))) := by
    conv => lhs; rw [← List.take_append_drop k xs]
    rw [val_append, List.length_take, Nat.min_eq_left (by omega), List.drop_eq_getElem_cons hk]
    rw [List.getD_eq_getElem?_getD, List.getElem?_eq_getElem hk] at hx
    simp only [Option.getD_some] at hx
    rw [hx]
    rfl
  unfold Lib.ctz
  rw [if_neg hx0]
  obtain ⟨m, hm, hlt⟩ := Lib.ctzFrom_spec 32 x (by omega) hxb
  generalize Lib.ctzFrom 32 x = c at hm hlt ⊢
  obtain ⟨d, hd⟩ : ∃ d, 32 = c + (d + 1) := ⟨31 - c, by omega⟩
  refine tz_is (m := m + 2 ^ d * val (xs.drop (k + 1))) ?_
  rw [hs, h0, Nat.zero_add, show (4294967296 : Nat) = 2 ^ 32 from rfl, ← Nat.pow_mul, Nat.pow_add, Nat.mul_assoc]
  congr 1
  generalize val (xs.drop (k + 1)) = R
  rw [hm]
  have e : (2 : Nat) ^ 32 = 2 ^ c * (2 * 2 ^ d) := by rw [hd, Nat.pow_add, Nat.pow_succ, Nat.mul_comm (2 ^ d) 2]
  rw [e, Nat.mul_assoc, ← Nat.mul_add]
  congr 1
  rw [Nat.mul_assoc]
  omega

set_option maxHeartbeats 2000000 in
theorem noughts_c (w : World) (p : Option Addr) (n c : Nat) (xs : List Nat) (h : Sl w p n c xs) (hs : n ≤ 1048576) (hT : T32 w) :
    Calls Tryd.prog 42 #[.slice p n c] w fun e w' => e = .returned (.int .i64 (tz (val xs) : Nat)) ∧ w' = w := by
  have HX := hid h
  have HT := hid hT
  clear h hT
  go_enter Tryd.func42, Tryd.ntmps42
  go_wp2
  go_loop [6] (fun i => ∃ k : Nat, k ≤ n ∧ i = .int .i64 k ∧ Hid (val (xs.take k) = 0)) (fun i => n - (intOf i).toNat)
  case atStart => exact ⟨0, by omega, rfl, by simp [Hid, val]⟩
  case round =>
    obtain ⟨k, hk, rfl, HY⟩ := hrel
    by_cases hlt : k < n
    · obtain ⟨b, o, rfl, hcell⟩ := HX.out.lie k (by rw [HX.out.len]; exact hlt)
      obtain ⟨x, hx⟩ : ∃ x, xs.getD k 0 = x := ⟨_, rfl⟩
      rw [hx] at hcell
      have hxb : x < 4294967296 := by rw [← hx]; exact HX.out.ok.getD k
      have HXK := hid hx
      have hst := val_take_succ xs k (by rw [HX.out.len]; exact hlt)
      rw [hx] at hst
      have HST := hid hst
      clear hx hst
      by_cases hx0 : x = 0
      · subst hx0
        go_wp2
        go_round
        case rel => exact ⟨k + 1, by omega, by go_num, by have := HST.out; rw [HY.out] at this; simpa [Hid] using this⟩
        case measure => simp [intOf]; omega
      · have HZ := hid (tz_c x hxb hx0 w HT.out)
        have HE := hid (tz_limb (by rw [HX.out.len]; exact hlt) HY.out HXK.out hx0 hxb)
        have hct : Lib.ctz 32 x < 32 := (Lib.lowest_bit 32 x hx0 hxb).2
        obtain ⟨ct, hc⟩ : ∃ ct, Lib.ctz 32 x = ct := ⟨_, rfl⟩
        rw [hc] at HZ HE hct
        clear hc HX HT HST HXK
        go_wp2_with fail
        refine HZ.out.mono ?_
        rintro e w' ⟨rfl, rfl⟩
        go_wp2_with fail
        go_ret
        refine ⟨ret_int ?_, rfl⟩
        rw [HE.out]
        omega
    · obtain rfl : k = n := by omega
      go_wp2
      go_ret
      refine ⟨ret_int ?_, rfl⟩
      have e0 : val xs = 0 := by
        have := HY.out
        rw [List.take_of_length_le (by rw [HX.out.len]; exact Nat.le_refl _)] at this
        exact this
      rw [e0]
      rfl

/-- The table, as a fact of a slot that nobody writes. -/
def TB : Pr := fun _ w => T32 w
theorem Sta.more {w0 W : World} {n : Nat} {bx : Bxs} {sl : List (Tmp × Pr)} {B : Nat → Prop} {a : Act} (S : Sta w0 n bx sl B a W) (t : Nat) {φ : Pr} (h : ∀ v, Has B W φ v) : Sta w0 n bx (sl ++ [(t, φ)]) B a W :=
  ⟨S.ent, S.bnd, S.siz, S.dfr, S.box, S.sep, fun x hx => by
    rcases List.mem_append.1 hx with h1 | h1
    · exact S.slt x h1
    · rw [List.mem_singleton.1 h1]; exact h _⟩
theorem tb_has {w : World} (h : T32 w) : ∀ v, Has (fun _ => False) w TB v := fun v w' e => t32_ev h e
section
variable {ops : Array Oper} {l : List Kd} {bx : Bxs} {sl : List (Tmp × Pr)} {i : Nat} {o : Oper} {Q : Exit → Act → World → Prop} {a0 : Act} {n : Nat} {w0 : World}
theorem owe_call1T {ψ : Nat → Pr} {f : FuncId} {x y : Operand} {ts : Array TypeId} {φ : Pr} (ho : ops[i]? = some o) (hw : Wants ops l bx sl i o) (hop : o.op = .call { callee := .value (.func f), args := #[x], argTypes := ts }) (hx : Opnd ops l bx sl i x φ) (hy : Opnd ops l bx sl i y TB) (hF : Fresh ψ) (hk : kdAt l i = .val (ψ w0.heap.size))
    (hcf : ∀ args w, (callFunc f args).run Tryd.prog w = .ok (.enter f args) w) (C : ∀ w u, T32 w → φ u w → Calls Tryd.prog f #[u] w (Gives ψ w)) : Owed Tryd.prog ops Q l bx sl a0 n w0 i :=
  owe_call ho hw hop hF hk hcf fun vs B a w c => by
    rw [show (#[x] : Array Operand).map a.eval = #[a.eval x] from by simp]
    exact C w _ (hy a0 n w0 vs B a w c).now (hx a0 n w0 vs B a w c).now
theorem owe_max {x y : Operand} {T : TypeId} {u v r : Value} (ho : ops[i]? = some o) (hw : Wants ops l bx sl i o) (hop : o.op = .call { callee := .builtin .max, args := #[x, y], argTypes := #[T, T] }) (hx : Opnd ops l bx sl i x (Is u)) (hy : Opnd ops l bx sl i y (Is v)) (hk : kdAt l i = .val (Is r))
    (hr : ∀ (ρ : Operand → Value) (w : World), ρ x = u → ρ y = v → (execOp ρ { o with op := .call { callee := .builtin .max, args := #[x, y], argTypes := #[T, T] } }).run Tryd.prog w = .ok (.value r) w) : Owed Tryd.prog ops Q l bx sl a0 n w0 i :=
  owe_is ho hw hk fun vs B a w c => by
    have := hr a.eval w (hx a0 n w0 vs B a w c).now (hy a0 n w0 vs B a w c).now
    rw [← this]
    unfold execOp
    rw [hop]
end
theorem run_max_a (ρ : Operand → Value) (o : Oper) (x y : Operand) (w : World) (a b : Int) (h : a ≤ b) (h1 : ρ x = .int .i64 a) (h2 : ρ y = .int .i64 b) : (execOp ρ { o with op := .call { callee := .builtin .max, args := #[x, y], argTypes := #[3, 3] } }).run Tryd.prog w = .ok (.value (.int .i64 b)) w := by
  unfold execOp
  go_simp
  exact Int.max_eq_right h
theorem run_max_b (ρ : Operand → Value) (o : Oper) (x y : Operand) (w : World) (a b : Int) (h : b ≤ a) (h1 : ρ x = .int .i64 a) (h2 : ρ y = .int .i64 b) : (execOp ρ { o with op := .call { callee := .builtin .max, args := #[x, y], argTypes := #[3, 3] } }).run Tryd.prog w = .ok (.value (.int .i64 a)) w := by
  unfold execOp
  go_simp
  exact Int.max_eq_left h
theorem run_max_int (ρ : Operand → Value) (o : Oper) (x y : Operand) (w : World) (a b r : Int) (h : (a ≤ b ∧ r = b) ∨ (b ≤ a ∧ r = a)) (h1 : ρ x = .int .i64 a) (h2 : ρ y = .int .i64 b) : (execOp ρ { o with op := .call { callee := .builtin .max, args := #[x, y], argTypes := #[3, 3] } }).run Tryd.prog w = .ok (.value (.int .i64 r)) w := by
  rcases h with ⟨h, rfl⟩ | ⟨h, rfl⟩
  · exact run_max_a ρ o x y w a r h h1 h2
  · exact run_max_b ρ o x y w r b h h1 h2
theorem run_conv_u64 (ρ : Operand → Value) (o : Oper) (x : Operand) (w : World) (a : Nat) (h : a < 9223372036854775808) (h1 : ρ x = .int .i64 a) : (execOp ρ { o with op := .convert 2 41 x }).run Tryd.prog w = .ok (.value (.int .u64 a)) w := by
  have h5 : IntKind.u64.wrap (a : Int) = (a : Int) := by rw [IntKind.wrap_u64]; omega
  unfold execOp
  go_simp
theorem run_eql_u64_t (ρ : Operand → Value) (o : Oper) (x y : Operand) (w : World) (a : Int) (h1 : ρ x = .int .u64 a) (h2 : ρ y = .int .u64 a) : (execOp ρ { o with op := .binOp .eql 41 x y 41 }).run Tryd.prog w = .ok (.value (.bool true)) w := by
  unfold execOp
  go_simp
theorem g_noughts {x k : Nat} (hk : k ≤ 1048576) : ∀ w u, T32 w → Nv x k u w → Calls Tryd.prog 42 #[u] w (Gives (IS (.int .i64 (tz x : Nat))) w) := by
  rintro w u hT ⟨p, n, c, xs, rfl, h, rfl, hn⟩
  refine (noughts_c w p n c xs h (by omega) hT).mono ?_
  rintro e w' ⟨rfl, rfl⟩
  exact ⟨_, rfl, Below.refl _ _, rfl⟩
theorem g_word {x k : Nat} (hk : k ≤ 70368744177664) (hl : (digs x).length ≤ 2) : ∀ w u, Nv x k u w → Calls Tryd.prog 41 #[u] w (Gives (IS (.int .u64 (x : Nat))) w) := by
  rintro w u ⟨p, n, c, xs, rfl, h, rfl, hn⟩
  refine (zword_c w p n c xs h (by omega) hl).mono ?_
  rintro e w' ⟨rfl, rfl⟩
  exact ⟨_, rfl, Below.refl _ _, rfl⟩
end Go.Proofs.YtoplejeljmpcpaaDoor
