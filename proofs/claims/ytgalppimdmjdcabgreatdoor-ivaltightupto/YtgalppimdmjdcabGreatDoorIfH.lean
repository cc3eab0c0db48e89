import Derived.Test.YtgalppimdmjdcabGreatDoorSetE
import Derived.Test.YtgalppimdmjdcabGreatDoorSetK
import Derived.Shelf.Spec.TrailingZeros
import Derived.Lib.LaidTab
import Derived.Test.YtgalppimdmjdcabGreatDoorSetY
import Derived.Test.YtgalppimdmjdcabGreatDoorSetS
import Derived.Test.YtgalppimdmjdcabGreatDoorIfD
/-
  Small: a number as an int64, zint's.
-/
namespace Go.Proofs.YtgalppimdmjdcabGreatDoor
open Go.RowKit Nt
set_option linter.unusedSimpArgs false
set_option linter.unusedVariables false
set_option maxRecDepth 20000

set_option maxHeartbeats 1000000 in
/-- word, of at most two limbs ahead of the noughts. -/
theorem zword_c (w : World) (p : Option Addr) (n c : Nat) (xs : List Nat) (h : Sl w p n c xs) (hs : n ≤ 70368744177664) (hl : (digs (val xs)).length ≤ 2) :
    Calls Tryz.prog 72 #[.slice p n c] w fun e w' => e = .returned (.int .u64 (val xs : Nat)) ∧ w' = w := by
  have HX := hid h
  have hm := h.max
  have hc := h.cap
  have hdl := h.dl
  have N := zlength_c w p n c xs h hs
  have htk : xs.take (digs (val xs)).length = digs (val xs) := take_digs_val h.ok
  obtain ⟨L, hL⟩ : ∃ L, (digs (val xs)).length = L := ⟨_, rfl⟩
  rw [hL] at N hdl hl htk
  have HN := hid N
  have HT := hid htk
  unfold maxLen at hm
  clear h N hL htk
  go_enter Tryz.func72, Tryz.ntmps72
  go_wp2_with fail
  refine HN.out.mono ?_
  rintro e w' ⟨rfl, rfl⟩
  go_wp2
  go_loop [3, 7] (fun v i => ∃ (k y : Nat), k ≤ L ∧ i = .int .i64 k ∧ v = .int .u64 y ∧ Hid (y = val (xs.take k))) (fun _ i => L - (intOf i).toNat)
  case atStart => exact ⟨0, 0, by omega, rfl, rfl, by simp [Hid, val]⟩
  case round =>
    obtain ⟨k, y, hk, rfl, rfl, HY⟩ := hrel
    by_cases hlt : k < L
    · have hlt' : k < n := by omega
      obtain ⟨b, o, rfl, hcell⟩ := HX.out.lie k (by rw [HX.out.len]; exact hlt')
      obtain ⟨x, hx⟩ : ∃ x, xs.getD k 0 = x := ⟨_, rfl⟩
      rw [hx] at hcell
      have hxb : x < 4294967296 := by rw [← hx]; exact HX.out.ok.getD k
      have HXK := hid hx
      have hst := val_take_succ xs k (by rw [HX.out.len]; exact hlt')
      rw [hx] at hst
      have HST := hid hst
      clear hx hst
      by_cases hk0 : k = 0
      · subst hk0
        have hy0 : y = 0 := by rw [HY.out]; simp [val]
        subst hy0
        simp only [Nat.add_zero] at hcell
        go_wp2
        go_round
        case rel =>
          refine ⟨1, x, by omega, rfl, ?_, ?_⟩
          · rw [or64_zero x hxb]
          · have := HST.out; simp [val] at this; simp [Hid]; omega
        case measure => simp [intOf]; omega
      · have hk1 : k = 1 := by omega
        subst hk1
        have hyb : y < 4294967296 := by
          rw [HY.out]
          have := val_lt (HX.out.ok.take 1)
          have e : (xs.take 1).length = 1 := by simp [HX.out.len]; omega
          rw [e] at this
          simpa using this
        go_wp2
        go_round
        case rel =>
          refine ⟨2, y + 4294967296 * x, by omega, rfl, ?_, ?_⟩
          · rw [or64 y x hyb hxb]
          · have := HST.out; rw [← HY.out] at this; simp [Hid]; simpa using this.symm
        case measure => simp [intOf]; omega
    · obtain rfl : k = L := by omega
      go_wp2
      go_ret
      refine ⟨ret_int ?_, rfl⟩
      rw [HY.out, HT.out, val_digs]

end Go.Proofs.YtgalppimdmjdcabGreatDoor

/-
  Small: a number as an int64, the document's.
-/
namespace Go.Proofs.YtgalppimdmjdcabGreatDoor
open Go.RowKit Nt
set_option linter.unusedSimpArgs false
set_option linter.unusedVariables false
set_option maxRecDepth 20000

end Go.Proofs.YtgalppimdmjdcabGreatDoor

/-
  math/bits.TrailingZeros32 over its table; zint.noughts; calls that read the table.
-/
namespace Go.Proofs.YtgalppimdmjdcabGreatDoor
open Go Go.RowKit Nt
set_option linter.unusedSimpArgs false
set_option linter.unusedVariables false
set_option maxRecDepth 20000

/-- The library's table, as numbers. -/
def tz32 : List Int := [0, 1, 28, 2, 29, 14, 24, 3, 30, 22, 20, 15, 25, 17, 4, 8, 31, 27, 13, 23, 21, 19, 16, 7, 26, 12, 18, 6, 11, 5, 10, 9]
/-- The library's table lies where the program lays it. -/
def T32 (w : World) : Prop := Lib.TabIs Tryz.prog w "math/bits.deBruijn32tab" .u8 tz32
theorem gTz : Tryz.prog.globalNamed "math/bits.deBruijn32tab" = some 1 := by kernel_rfl
theorem gTzType : (Tryz.prog.globals[1]?).map (·.type) = some 109 := by kernel_rfl
theorem t32_ev {w w' : World} (h : T32 w) (e : Ev (fun _ => False) w w') : T32 w' := by
  unfold T32 Lib.TabIs World.var? at *
  rw [gTz] at h ⊢
  simp only [Option.bind_some] at h ⊢
  cases hw : w.heap[1]? with
  | none => rw [hw] at h; cases h
  | some o =>
    rw [e.block _ (Array.getElem?_eq_some_iff.1 hw).1 (fun h => h)]
    rw [hw] at h ⊢
    exact h
theorem t32_of_vars {W : World} : ∀ (laid : List (String × DataW Unit)) (ps : List MemPlace), DataW.LaidVars Tryz.prog W laid ps → ("math/bits.deBruijn32tab", Lib.tabData .u8 tz32) ∈ laid → T32 W
  | [], _, _, h => by cases h
  | (n, d) :: r, ps, h, hm => by
    obtain ⟨g, t, cs, fuel, p, q, hg, ht, hv, hd, hr, _⟩ := h
    rcases List.mem_cons.1 hm with e | e
    · cases e
      obtain rfl := Option.some.inj (gTz.symm.trans hg)
      obtain rfl := Option.some.inj (gTzType.symm.trans ht)
      unfold T32 Lib.TabIs
      rw [hv, ← Lib.cells_of_tab Tryz.underlying109 Tryz.underlying5 (by kernel_rfl) (by kernel_rfl) hd]
    · exact t32_of_vars r q hr e
theorem t32_of_laid {W : World} {laid : List (String × DataW Unit)} (h : laidMet Tryz.prog laid W) (hm : ("math/bits.deBruijn32tab", Lib.tabData .u8 tz32) ∈ laid) : T32 W := by
  obtain ⟨ps, h1, _⟩ := h
  exact t32_of_vars laid ps h1 hm
theorem t32_at {w : World} (h : T32 w) : TabAt 1 Lib.deBruijn32tab w := by
  intro j hj
  have := Lib.TabIs.cell h gTz j (by exact hj)
  rw [this]
  congr 2
  have : ∀ j, j < 32 → tz32.getD j 0 = ((Lib.deBruijn32tab.getD j 0 : Nat) : Int) := by decide
  exact this j hj

set_option maxHeartbeats 1000000 in
theorem tz_core (x k idx : Nat) (w : World) (hx0 : ((x : Int) == 0) = false)
    (key : bits BinOp.and IntKind.u32 (x : Int) (-(x : Int) % 4294967296) * 125613361 % 4294967296 / 134217728 = (idx : Int))
    (hi : idx < 32) (hk : k < 32) (hcell : w.cell? ⟨1, idx, none⟩ = some (.int .u8 k)) :
    Calls Tryz.prog 93 #[.int .u32 x] w fun e w' => e = .returned (.int .i64 k) ∧ w' = w := by
  go_enter Tryz.func93, Tryz.ntmps93
  go_wp2_with (simp only [key])
  go_ret
  exact ⟨rfl, rfl⟩
theorem tz_c (x : Nat) (hx : x < 4294967296) (hx0 : x ≠ 0) (w : World) (hT : T32 w) :
    Calls Tryz.prog 93 #[.int .u32 x] w fun e w' => e = .returned (.int .i64 (Lib.ctz 32 x)) ∧ w' = w := by
  obtain ⟨hlow, hk⟩ := Lib.lowest_bit 32 x hx0 hx
  obtain ⟨hi, htab⟩ := Lib.deBruijn32_at _ hk
  have hcell := t32_at hT _ hi
  rw [htab] at hcell
  exact tz_core x _ _ w (by simp; omega) (tz32_key x _ hx hx0 hlow) hi hk hcell

/-- How many binary noughts stand below the lowest 1; 0 of 0. -/
def tz (v : Nat) : Nat := if v = 0 then 0 else Lib.ctzFrom v v
theorem odd_pow {a b m k : Nat} (h : 2 ^ a * (2 * m + 1) = 2 ^ b * (2 * k + 1)) (hl : a < b) : False := by
  obtain ⟨d, rfl⟩ : ∃ d, b = a + (d + 1) := ⟨b - a - 1, by omega⟩
  rw [Nat.pow_add, Nat.mul_assoc] at h
  have h2 := Nat.eq_of_mul_eq_mul_left (Nat.pow_pos (by omega)) h
  rw [Nat.pow_succ, Nat.mul_comm (2 ^ d) 2, Nat.mul_assoc] at h2
  omega
theorem tz_is {v z m : Nat} (h : v = 2 ^ z * (2 * m + 1)) : tz v = z := by
  have hv : 0 < v := by rw [h]; exact Nat.mul_pos (Nat.pow_pos (by omega)) (by omega)
  unfold tz
  rw [if_neg (by omega)]
  obtain ⟨k, hk, _⟩ := Lib.ctzFrom_spec v v hv Nat.lt_two_pow_self
  generalize Lib.ctzFrom v v = y at hk
  rw [h] at hk
  rcases Nat.lt_trichotomy z y with hl | hl | hl
  · exact absurd hl (fun hl => odd_pow hk hl)
  · exact hl.symm
  · exact absurd hl (fun hl => odd_pow hk.symm hl)
theorem tz_spec {v : Nat} (h : v ≠ 0) : ∃ m, v = 2 ^ tz v * (2 * m + 1) := by
  obtain ⟨k, hk, _⟩ := Lib.ctzFrom_spec v v (by omega) Nat.lt_two_pow_self
  refine ⟨k, ?_⟩
  unfold tz
  rw [if_neg h]
  exact hk
theorem tz_ge {v e : Nat} (h : v ≠ 0) : e ≤ tz v ↔ v % 2 ^ e = 0 := by
  obtain ⟨m, hm⟩ := tz_spec h
  constructor
  · intro hl
    obtain ⟨d, hd⟩ : ∃ d, tz v = e + d := ⟨tz v - e, by omega⟩
    rw [hm, hd, Nat.pow_add, Nat.mul_assoc]
    exact Nat.mul_mod_right _ _
  · intro h0
    apply Classical.byContradiction
    intro hc
    obtain ⟨d, hd⟩ : ∃ d, e = tz v + (d + 1) := ⟨e - tz v - 1, by omega⟩
    obtain ⟨q, hq⟩ := Nat.dvd_of_mod_eq_zero h0
    rw [hd] at hq
    generalize tz v = z at hm hq
    rw [hm, Nat.pow_add, Nat.mul_assoc] at hq
    have h2 := Nat.eq_of_mul_eq_mul_left (Nat.pow_pos (by omega)) hq
    rw [Nat.pow_succ, Nat.mul_comm (2 ^ d) 2, Nat.mul_assoc] at h2
    omega
/-- The limbs below are 0, this one is not. -/
theorem tz_limb {xs : List Nat} {k x : Nat} (hk : k < xs.length) (h0 : val (xs.take k) = 0) (hx : xs.getD k 0 = x) (hx0 : x ≠ 0) (hxb : x < 4294967296) : tz (val xs) = 32 * k + Lib.ctz 32 x := by
  have hs : val xs = val (xs.take k) + 4294967296 ^ k * (x + 4294967296 * val (xs.drop (k + 1))) := by
    conv => lhs; rw [← List.take_append_drop k xs]
    rw [val_append, List.length_take, Nat.min_eq_left (by omega), List.drop_eq_getElem_cons hk]
    rw [List.getD_eq_getElem?_getD, List.getElem?_eq_getElem hk] at hx
    simp only [Option.getD_some] at hx
    rw [hx]
    rfl
  unfold Lib.ctz
  rw [if_neg hx0]
  obtain ⟨m, hm, hlt⟩ := Lib.ctzFrom_spec 32 x (by omega) hxb
  generalize Lib.ctzFrom 32 x = c at hm hlt ⊢
  obtain ⟨d, hd⟩ : ∃ d, 32 = c + (d + 1) := ⟨31 - c, by omega⟩
  refine tz_is (m := m + 2 ^ d * val (xs.drop (k + 1))) ?_
  rw [hs, h0, Nat.zero_add, show (4294967296 : Nat) = 2 ^ 32 from rfl, ← Nat.pow_mul, Nat.pow_add, Nat.mul_assoc]
  congr 1
  generalize val (xs.drop (k + 1)) = R
  rw [hm]
  have e : (2 : Nat) ^ 32 = 2 ^ c * (2 * 2 ^ d) := by rw [hd, Nat.pow_add, Nat.pow_succ, Nat.mul_comm (2 ^ d) 2]
  rw [e, Nat.mul_assoc, ← Nat.mul_add]
  congr 1
  rw [Nat.mul_assoc]
  omega

set_option maxHeartbeats 2000000 in
theorem noughts_c (w : World) (p : Option Addr) (n c : Nat) (xs : List Nat) (h : Sl w p n c xs) (hs : n ≤ 1048576) (hT : T32 w) :
    Calls Tryz.prog 73 #[.slice p n c] w fun e w' => e = .returned (.int .i64 (tz (val xs) : Nat)) ∧ w' = w := by
  have HX := hid h
  have HT := hid hT
  clear h hT
  go_enter Tryz.func73, Tryz.ntmps73
  go_wp2
  go_loop [6] (fun i => ∃ k : Nat, k ≤ n ∧ i = .int .i64 k ∧ Hid (val (xs.take k) = 0)) (fun i => n - (intOf i).toNat)
  case atStart => exact ⟨0, by omega, rfl, by simp [Hid, val]⟩
  case round =>
    obtain ⟨k, hk, rfl, HY⟩ := hrel
    by_cases hlt : k < n
    · obtain ⟨b, o, rfl, hcell⟩ := HX.out.lie k (by rw [HX.out.len]; exact hlt)
      obtain ⟨x, hx⟩ : ∃ x, xs.getD k 0 = x := ⟨_, rfl⟩
      rw [hx] at hcell
      have hxb : x < 4294967296 := by rw [← hx]; exact HX.out.ok.getD k
      have HXK := hid hx
      have hst := val_take_succ xs k (by rw [HX.out.len]; exact hlt)
      rw [hx] at hst
      have HST := hid hst
      clear hx hst
      by_cases hx0 : x = 0
      · subst hx0
        go_wp2
        go_round
        case rel => exact ⟨k + 1, by omega, by go_num, by have := HST.out; rw [HY.out] at this; simpa [Hid] using this⟩
        case measure => simp [intOf]; omega
      · have HZ := hid (tz_c x hxb hx0 w HT.out)
        have HE := hid (tz_limb (by rw [HX.out.len]; exact hlt) HY.out HXK.out hx0 hxb)
        have hct : Lib.ctz 32 x < 32 := (Lib.lowest_bit 32 x hx0 hxb).2
        obtain ⟨ct, hc⟩ : ∃ ct, Lib.ctz 32 x = ct := ⟨_, rfl⟩
        rw [hc] at HZ HE hct
        clear hc HX HT HST HXK
        go_wp2_with fail
        refine HZ.out.mono ?_
        rintro e w' ⟨rfl, rfl⟩
        go_wp2_with fail
        go_ret
        refine ⟨ret_int ?_, rfl⟩
        rw [HE.out]
        omega
    · obtain rfl : k = n := by omega
      go_wp2
      go_ret
      refine ⟨ret_int ?_, rfl⟩
      have e0 : val xs = 0 := by
        have := HY.out
        rw [List.take_of_length_le (by rw [HX.out.len]; exact Nat.le_refl _)] at this
        exact this
      rw [e0]
      rfl

/-- The table, as a fact of a slot that nobody writes. -/
def TB : Pr := fun _ w => T32 w
theorem Sta.more {w0 W : World} {n : Nat} {bx : Bxs} {sl : List (Tmp × Pr)} {B : Nat → Prop} {a : Act} (S : Sta w0 n bx sl B a W) (t : Nat) {φ : Pr} (h : ∀ v, Has B W φ v) : Sta w0 n bx (sl ++ [(t, φ)]) B a W :=
  ⟨S.ent, S.bnd, S.siz, S.dfr, S.box, S.sep, fun x hx => by
    rcases List.mem_append.1 hx with h1 | h1
    · exact S.slt x h1
    · rw [List.mem_singleton.1 h1]; exact h _⟩
theorem tb_has {w : World} (h : T32 w) : ∀ v, Has (fun _ => False) w TB v := fun v w' e => t32_ev h e
section
variable {ops : Array Oper} {l : List Kd} {bx : Bxs} {sl : List (Tmp × Pr)} {i : Nat} {o : Oper} {Q : Exit → Act → World → Prop} {a0 : Act} {n : Nat} {w0 : World}
theorem owe_call1T {ψ : Nat → Pr} {f : FuncId} {x y : Operand} {ts : Array TypeId} {φ : Pr} (ho : ops[i]? = some o) (hw : Wants ops l bx sl i o) (hop : o.op = .call { callee := .value (.func f), args := #[x], argTypes := ts }) (hx : Opnd ops l bx sl i x φ) (hy : Opnd ops l bx sl i y TB) (hF : Fresh ψ) (hk : kdAt l i = .val (ψ w0.heap.size))
    (hcf : ∀ args w, (callFunc f args).run Tryz.prog w = .ok (.enter f args) w) (C : ∀ w u, T32 w → φ u w → Calls Tryz.prog f #[u] w (Gives ψ w)) : Owed Tryz.prog ops Q l bx sl a0 n w0 i :=
  owe_call ho hw hop hF hk hcf fun vs B a w c => by
    rw [show (#[x] : Array Operand).map a.eval = #[a.eval x] from by simp]
    exact C w _ (hy a0 n w0 vs B a w c).now (hx a0 n w0 vs B a w c).now
theorem owe_max {x y : Operand} {T : TypeId} {u v r : Value} (ho : ops[i]? = some o) (hw : Wants ops l bx sl i o) (hop : o.op = .call { callee := .builtin .max, args := #[x, y], argTypes := #[T, T] }) (hx : Opnd ops l bx sl i x (Is u)) (hy : Opnd ops l bx sl i y (Is v)) (hk : kdAt l i = .val (Is r))
    (hr : ∀ (ρ : Operand → Value) (w : World), ρ x = u → ρ y = v → (execOp ρ { o with op := .call { callee := .builtin .max, args := #[x, y], argTypes := #[T, T] } }).run Tryz.prog w = .ok (.value r) w) : Owed Tryz.prog ops Q l bx sl a0 n w0 i :=
  owe_is ho hw hk fun vs B a w c => by
    have := hr a.eval w (hx a0 n w0 vs B a w c).now (hy a0 n w0 vs B a w c).now
    rw [← this]
    unfold execOp
    rw [hop]
end
theorem run_max_a (ρ : Operand → Value) (o : Oper) (x y : Operand) (w : World) (a b : Int) (h : a ≤ b) (h1 : ρ x = .int .i64 a) (h2 : ρ y = .int .i64 b) : (execOp ρ { o with op := .call { callee := .builtin .max, args := #[x, y], argTypes := #[3, 3] } }).run Tryz.prog w = .ok (.value (.int .i64 b)) w := by
  unfold execOp
  go_simp
  exact Int.max_eq_right h
theorem run_max_b (ρ : Operand → Value) (o : Oper) (x y : Operand) (w : World) (a b : Int) (h : b ≤ a) (h1 : ρ x = .int .i64 a) (h2 : ρ y = .int .i64 b) : (execOp ρ { o with op := .call { callee := .builtin .max, args := #[x, y], argTypes := #[3, 3] } }).run Tryz.prog w = .ok (.value (.int .i64 a)) w := by
  unfold execOp
  go_simp
  exact Int.max_eq_left h
theorem run_max_int (ρ : Operand → Value) (o : Oper) (x y : Operand) (w : World) (a b r : Int) (h : (a ≤ b ∧ r = b) ∨ (b ≤ a ∧ r = a)) (h1 : ρ x = .int .i64 a) (h2 : ρ y = .int .i64 b) : (execOp ρ { o with op := .call { callee := .builtin .max, args := #[x, y], argTypes := #[3, 3] } }).run Tryz.prog w = .ok (.value (.int .i64 r)) w := by
  rcases h with ⟨h, rfl⟩ | ⟨h, rfl⟩
  · exact run_max_a ρ o x y w a r h h1 h2
  · exact run_max_b ρ o x y w r b h h1 h2
theorem g_noughts {x k : Nat} (hk : k ≤ 1048576) : ∀ w u, T32 w → Nv x k u w → Calls Tryz.prog 73 #[u] w (Gives (IS (.int .i64 (tz x : Nat))) w) := by
  rintro w u hT ⟨p, n, c, xs, rfl, h, rfl, hn⟩
  refine (noughts_c w p n c xs h (by omega) hT).mono ?_
  rintro e w' ⟨rfl, rfl⟩
  exact ⟨_, rfl, Below.refl _ _, rfl⟩
theorem g_word {x k : Nat} (hk : k ≤ 70368744177664) (hl : (digs x).length ≤ 2) : ∀ w u, Nv x k u w → Calls Tryz.prog 72 #[u] w (Gives (IS (.int .u64 (x : Nat))) w) := by
  rintro w u ⟨p, n, c, xs, rfl, h, rfl, hn⟩
  refine (zword_c w p n c xs h (by omega) hl).mono ?_
  rintro e w' ⟨rfl, rfl⟩
  exact ⟨_, rfl, Below.refl _ _, rfl⟩
end Go.Proofs.YtgalppimdmjdcabGreatDoor

/-
  Roots, bits and top bits: zint's, and the document's.
-/
namespace Go.Proofs.YtgalppimdmjdcabGreatDoor
open Go Go.RowKit Nt
set_option linter.unusedSimpArgs false
set_option linter.unusedVariables false
set_option maxRecDepth 20000

set_option maxHeartbeats 400000 in
theorem shr_w (w : World) (p : Option Addr) (n c : Nat) (xs : List Nat) (z : Int) (h : Sl w p n c xs) (hn : n ≤ 35184372088832) (hz : 0 ≤ z) (hz2 : z ≤ 9223372036854775807) :
    Calls Tryz.prog 42 #[.slice p n c, .int .i64 z] w (Gives (TWO (NN (val xs / 2 ^ z.toNat)) (IS (.int .i64 0))) w) := by
  have dx : (digs (val xs)).length ≤ n := h.dl
  refine calls_sta (sl := [(0, (Nx p n c xs)), (1, (iV z))]) Tryz.func42 rfl Tryz.ntmps42 (by simp) (args_cons rfl (nx_has h) (args_cons rfl (is_has _) args_nil)) ?_
  intro a0 S0
  refine wp_stmt_seq [.val (Is (.slice none 0 0)), .val (iV 0)] [] [.inl 0, .inl 1, .inr 0, .inr 1] follows S0 rfl (by kernel_rfl) ?_ ?_
  · refine ⟨⟨trivial, ?_⟩, ?_⟩
    · exact mC
    · exact mC
  intro B1 a1 W1 (S1 : Sta w 12 [] [(4, Is (.slice none 0 0)), (5, iV 0), (0, Nx p n c xs), (1, iV z)] _ _ _)
  refine wp_seq ?_
  refine wp_stmt_seq [.val (iV z), kF] [] [.inl 1, .inr 0, .inr 1, .inr 2, .inr 3] follows S1 rfl (by kernel_rfl) ?_ ?_
  · refine ⟨⟨trivial, ?_⟩, ?_⟩
    · exact mS 3 1
    · exact b_lss_int_f wA (oO 0 6) (opnd_const _) (h := hz)
  intro B2 a2 W2 (S2 : Sta w 12 [] [(7, bF), (4, Is (.slice none 0 0)), (5, iV 0), (0, Nx p n c xs), (1, iV z)] _ _ _)
  refine wp_cond_false (S2.bool 0 7 rfl) ?_
  refine wp_skip ?_
  refine thenN ?_
  refine wp_stmt_seq [.val (Nx p n c xs), .val (Nx p (digs (val xs)).length c (digs (val xs))), .val (iV z), .val ((NN (val xs / 2 ^ z.toNat)) w.heap.size), .val ((NN (val xs / 2 ^ z.toNat)) w.heap.size), .val (iV 0)] [] [.inl 4, .inl 5, .inr 0, .inr 4] follows S2 rfl (by kernel_rfl) ?_ ?_
  · refine ⟨⟨⟨⟨⟨⟨trivial, ?_⟩, ?_⟩, ?_⟩, ?_⟩, ?_⟩, ?_⟩
    · exact mS 3 0
    · exact owe_callF1 rfl wA rfl (oO 0 8) rfl (fun args w => by go_simp) g_trim
    · exact mS 4 1
    · exact cc2 wA (qO 1 9 rfl) (qO 2 10 rfl) (fresh_nn _) (fun w u v h1 h2 => g_down (z := z.toNat) (by omega) (by omega) w u v (digs_nx dx _ _ h1) (by rw [show ((z.toNat : Nat) : Int) = z from by omega]; exact h2))
    · exact mO 3 11
    · exact mC
  intro B3 a3 W3 (S3 : Sta w 12 [] [(4, ((NN (val xs / 2 ^ z.toNat)) w.heap.size)), (5, iV 0), (7, bF), (1, iV z)] _ _ _)
  refine wp_ret ?_
  exact end_two S3 rfl (res_tmp S3 0 4 rfl) (res_tmp S3 1 5 rfl)


theorem g_shr {x k : Nat} {z : Int} (hk : k ≤ 35184372088832) (hz : 0 ≤ z) (hz2 : z ≤ 9223372036854775807) : ∀ w u v, Nv x k u w → Is (.int .i64 z) v w → Calls Tryz.prog 42 #[u, v] w (Gives (TWO (NN (x / 2 ^ z.toNat)) (IS (.int .i64 0))) w) := by
  rintro w u v ⟨p, n, c, xs, rfl, h, rfl, hn⟩ e
  obtain rfl : v = _ := e
  exact shr_w w p n c xs z h (by omega) hz hz2
open Classical in
set_option maxHeartbeats 400000 in
theorem zbits_w (w : World) (s : Bool) (p : Option Addr) (n c : Nat) (xs : List Nat) (h : Sl w p n c xs) (hn : n ≤ 1048576) :
    Calls Tryz.prog 45 #[.agg #[.bool s, .slice p n c]] w (Gives (IS (.int .i64 (Go.bitLen (val xs) : Nat))) w) := by
  refine calls_sta (sl := [(0, (Zx s p n c xs))]) Tryz.func45 rfl Tryz.ntmps45 (by simp) (args_cons rfl (zx_has h) args_nil) ?_
  intro a0 S0
  refine wp_stmt_seq [.new (.box 24 (Zx s p n c xs)), .val (iV 0)] [.inl 0] [.inl 1] follows S0 rfl (by kernel_rfl) ?_ ?_
  · refine ⟨⟨trivial, ?_⟩, ?_⟩
    · exact owe_box rfl wA rfl (oS 0 0) rfl (fun ρ w h => box_int shp_zx ρ _ _ w h)
    · exact mC
  intro B1 a1 W1 (S1 : Sta w 6 [(1, (.box 24 (Zx s p n c xs)))] [(2, iV 0)] _ _ _)
  refine wp_stmt_seq [.val (Part a1 1 1), .val (Nx p n c xs), .val (iV (Go.bitLen (val xs) : Nat)), .val (iV (Go.bitLen (val xs) : Nat))] [.inr 0] [.inl 3] follows S1 rfl (by kernel_rfl) ?_ ?_
  · refine ⟨⟨⟨⟨trivial, ?_⟩, ?_⟩, ?_⟩, ?_⟩
    · exact owe_part rfl wA rfl (k := 0) rfl (by kernel_rfl) rfl (fun ρ w b h => part_int1 ρ _ _ w b 0 h)
    · exact owe_pload rfl wA rfl (oO 0 3) (k := 0) rfl (by kernel_rfl) rfl (fun ρ w b u h1 h2 h3 => pload_mag zx_mag ρ _ _ w b u h1 h2 h3)
    · exact cc1 wA (qO 1 4 rfl) (fresh_is _) (fun w u h1 => g_bits (by omega) w u ((nx_nv (Nat.le_refl _)) _ _ h1))
    · exact mO 2 5
  intro B2 a2 W2 (S2 : Sta w 6 [(1, (.box 24 (Zx s p n c xs)))] [(2, iV (Go.bitLen (val xs) : Nat))] _ _ _)
  refine wp_ret ?_
  exact end_one S2 rfl (res_tmp S2 0 2 rfl)

theorem g_zbits {A : Int} {k : Nat} (hk : k ≤ 1048576) : ∀ w u, Zv A k u w → Calls Tryz.prog 45 #[u] w (Gives (IS (.int .i64 (Go.bitLen A.natAbs : Nat))) w) := by
  rintro w u ⟨s, p, n, c, xs, rfl, h, rfl, hn⟩
  rw [sg_abs]
  exact zbits_w w s p n c xs h (by omega)

set_option maxHeartbeats 400000 in
theorem ztop_true (w : World) (s : Bool) (p : Option Addr) (n c : Nat) (xs : List Nat) (h : Sl w p n c xs) (A : Int) (eA : sg s (val xs) = A) (hn : n ≤ 1048576) (hT : T32 w) (bl e M : Nat) (hbl : Go.bitLen A.natAbs = bl) (hbb : bl ≤ 33554432) (he : (bl ≤ 53 ∧ e = 0) ∨ (53 ≤ bl ∧ e = bl - 53)) (hM : val xs / 2 ^ ((e : Nat) : Int).toNat = M) (hM2 : (digs M).length ≤ 2) (hI : ((e : Nat) : Int) ≤ ((tz (val xs) : Nat) : Int)) :
    Calls Tryz.prog 48 #[.agg #[.bool s, .slice p n c]] w (Gives (THREE (IS (.int .u64 M)) (IS (.int .i64 e)) (IS (.bool true))) w) := by
  refine calls_sta (sl := [(0, (Zx s p n c xs))]) Tryz.func48 rfl Tryz.ntmps48 (by simp) (args_cons rfl (zx_has h) args_nil) ?_
  intro a0 S0
  replace S0 : Sta w 27 [] [(0, Zx s p n c xs), (0, TB)] (fun _ => False) a0 w := S0.more 0 (tb_has hT)
  refine wp_stmt_seq [.new (.box 24 (Zx s p n c xs)), .val (Is (.int .u64 0)), .val (iV 0), kF] [.inl 0] [.inl 1, .inl 2, .inl 3, .inr 1] follows S0 rfl (by kernel_rfl) ?_ ?_
  · refine ⟨⟨⟨⟨trivial, ?_⟩, ?_⟩, ?_⟩, ?_⟩
    · exact owe_box rfl wA rfl (oS 0 0) rfl (fun ρ w h => box_int shp_zx ρ _ _ w h)
    · exact mC
    · exact mC
    · exact mC
  intro B1 a1 W1 (S1 : Sta w 27 [(1, (.box 24 (Zx s p n c xs)))] [(2, Is (.int .u64 0)), (3, iV 0), (4, bF), (0, TB)] _ _ _)
  refine wp_stmt_seq [.val (Zx s p n c xs), .val (iV bl), .val (iV ((bl : Int) - 53)), .val (iV e), .val (iV e)] [.inr 0] [.inl 4, .inr 0, .inr 1, .inr 2, .inr 3] follows S1 rfl (by kernel_rfl) ?_ ?_
  · refine ⟨⟨⟨⟨⟨trivial, ?_⟩, ?_⟩, ?_⟩, ?_⟩, ?_⟩
    · exact lod 0 wA (loads_of strct_int shp_zx)
    · exact cc1 wA (qO 0 8 rfl) (fresh_is _) (fun w u0 h0 => Gives.cast ((fun w u h1 => g_zbits (by omega) w u ((zx_zv' eA (Nat.le_refl _)) _ _ h1)) w u0 h0) (by rw [hbl]))
    · exact b_sub_int wA (oO 1 9) (opnd_const _) (h := ⟨rfl, by omega, by omega⟩)
    · exact owe_max rfl wA rfl (opnd_const _) (oO 2 10) rfl (fun ρ w h1 h2 => run_max_int ρ _ _ _ w _ _ _ (by omega) h1 h2)
    · exact mO 3 11
  intro B2 a2 W2 (S2 : Sta w 27 [(1, (.box 24 (Zx s p n c xs)))] [(5, iV e), (2, Is (.int .u64 0)), (3, iV 0), (4, bF), (0, TB)] _ _ _)
  refine wp_stmt_seq [.val (Part a2 1 1), .val (Nx p n c xs), .val (iV e), .val ((TWO (NN (M)) (IS (.int .i64 0))) w.heap.size), .val ((TWO (NN (M)) (IS (.int .i64 0))) w.heap.size), .val ((NN (M)) w.heap.size), .val (iV 0), .val ((NN (M)) w.heap.size), .val (iV 0)] [.inr 0] [.inl 7, .inr 0, .inr 1, .inr 2, .inr 3, .inr 4] follows S2 rfl (by kernel_rfl) ?_ ?_
  · repeat' refine And.intro ?_ ?_
    · trivial
    · exact owe_part rfl wA rfl (k := 0) rfl (by kernel_rfl) rfl (fun ρ w b h => part_int1 ρ _ _ w b 0 h)
    · exact owe_pload rfl wA rfl (oO 0 13) (k := 0) rfl (by kernel_rfl) rfl (fun ρ w b u h1 h2 h3 => pload_mag zx_mag ρ _ _ w b u h1 h2 h3)
    · exact mS 0 5
    · exact cc2 wA (qO 1 14 rfl) (qO 2 15 rfl) (fresh_two (fresh_nn _) (fresh_is _)) (fun w u0 u1 h0 h1 => Gives.cast ((fun w u v h1 h2 => g_shr (z := ((e : Nat) : Int)) (by omega) (by omega) (by omega) w u v ((nx_nv (Nat.le_refl _)) _ _ h1) h2) w u0 u1 h0 h1) (by rw [hM]))
    · exact mO 3 16
    · exact e20 wA (oO 4 12)
    · exact e21 wA (oO 4 12)
    · exact mO 5 17
    · exact mO 6 18
  intro B3 a3 W3 (S3 : Sta w 27 [(1, (.box 24 (Zx s p n c xs)))] [(6, ((NN (M)) w.heap.size)), (5, iV e), (2, Is (.int .u64 0)), (3, iV 0), (4, bF), (0, TB)] _ _ _)
  refine wp_stmt_seq [.val ((NN (M)) w.heap.size), .val (Is (.int .u64 M)), .val (iV e), .val (Part a3 1 1), .val (Nx p n c xs), .val (iV (tz (val xs) : Nat)), .val (iV e), kT, .val (Is (.int .u64 M)), .val (iV e), kT] [.inr 0] [.inl 8, .inl 9, .inl 10, .inr 1, .inr 5] follows S3 rfl (by kernel_rfl) ?_ ?_
  · repeat' refine And.intro ?_ ?_
    · trivial
    · exact mS 0 6
    · exact cc1 wA (qO 0 19 rfl) (fresh_is _) (fun w u h1 => g_word (by omega) hM2 w u ((nn_nv hM2) _ _ h1))
    · exact mS 1 5
    · exact owe_part rfl wA rfl (k := 0) rfl (by kernel_rfl) rfl (fun ρ w b h => part_int1 ρ _ _ w b 0 h)
    · exact owe_pload rfl wA rfl (oO 3 22) (k := 0) rfl (by kernel_rfl) rfl (fun ρ w b u h1 h2 h3 => pload_mag zx_mag ρ _ _ w b u h1 h2 h3)
    · exact owe_call1T rfl wA rfl (oO 4 23) (oS 5 0) (fresh_is _) rfl (fun args w => by go_simp) (fun w u hT h1 => g_noughts (by omega) w u hT ((nx_nv (Nat.le_refl _)) _ _ h1))
    · exact mS 1 5
    · exact b_geq_int_t wA (oO 5 24) (oO 6 25) (h := hI)
    · exact mO 1 20
    · exact mO 2 21
    · exact mO 7 26
  intro B4 a4 W4 (S4 : Sta w 27 [(1, (.box 24 (Zx s p n c xs)))] [(2, Is (.int .u64 M)), (3, iV e), (4, bT), (5, iV e), (0, TB)] _ _ _)
  refine wp_ret ?_
  exact end_three S4 rfl (res_tmp S4 0 2 rfl) (res_tmp S4 1 3 rfl) (res_tmp S4 2 4 rfl)

set_option maxHeartbeats 400000 in
theorem ztop_false (w : World) (s : Bool) (p : Option Addr) (n c : Nat) (xs : List Nat) (h : Sl w p n c xs) (A : Int) (eA : sg s (val xs) = A) (hn : n ≤ 1048576) (hT : T32 w) (bl e M : Nat) (hbl : Go.bitLen A.natAbs = bl) (hbb : bl ≤ 33554432) (he : (bl ≤ 53 ∧ e = 0) ∨ (53 ≤ bl ∧ e = bl - 53)) (hM : val xs / 2 ^ ((e : Nat) : Int).toNat = M) (hM2 : (digs M).length ≤ 2) (hI : ((tz (val xs) : Nat) : Int) < ((e : Nat) : Int)) :
    Calls Tryz.prog 48 #[.agg #[.bool s, .slice p n c]] w (Gives (THREE (IS (.int .u64 M)) (IS (.int .i64 e)) (IS (.bool false))) w) := by
  refine calls_sta (sl := [(0, (Zx s p n c xs))]) Tryz.func48 rfl Tryz.ntmps48 (by simp) (args_cons rfl (zx_has h) args_nil) ?_
  intro a0 S0
  replace S0 : Sta w 27 [] [(0, Zx s p n c xs), (0, TB)] (fun _ => False) a0 w := S0.more 0 (tb_has hT)
  refine wp_stmt_seq [.new (.box 24 (Zx s p n c xs)), .val (Is (.int .u64 0)), .val (iV 0), kF] [.inl 0] [.inl 1, .inl 2, .inl 3, .inr 1] follows S0 rfl (by kernel_rfl) ?_ ?_
  · refine ⟨⟨⟨⟨trivial, ?_⟩, ?_⟩, ?_⟩, ?_⟩
    · exact owe_box rfl wA rfl (oS 0 0) rfl (fun ρ w h => box_int shp_zx ρ _ _ w h)
    · exact mC
    · exact mC
    · exact mC
  intro B1 a1 W1 (S1 : Sta w 27 [(1, (.box 24 (Zx s p n c xs)))] [(2, Is (.int .u64 0)), (3, iV 0), (4, bF), (0, TB)] _ _ _)
  refine wp_stmt_seq [.val (Zx s p n c xs), .val (iV bl), .val (iV ((bl : Int) - 53)), .val (iV e), .val (iV e)] [.inr 0] [.inl 4, .inr 0, .inr 1, .inr 2, .inr 3] follows S1 rfl (by kernel_rfl) ?_ ?_
  · refine ⟨⟨⟨⟨⟨trivial, ?_⟩, ?_⟩, ?_⟩, ?_⟩, ?_⟩
    · exact lod 0 wA (loads_of strct_int shp_zx)
    · exact cc1 wA (qO 0 8 rfl) (fresh_is _) (fun w u0 h0 => Gives.cast ((fun w u h1 => g_zbits (by omega) w u ((zx_zv' eA (Nat.le_refl _)) _ _ h1)) w u0 h0) (by rw [hbl]))
    · exact b_sub_int wA (oO 1 9) (opnd_const _) (h := ⟨rfl, by omega, by omega⟩)
    · exact owe_max rfl wA rfl (opnd_const _) (oO 2 10) rfl (fun ρ w h1 h2 => run_max_int ρ _ _ _ w _ _ _ (by omega) h1 h2)
    · exact mO 3 11
  intro B2 a2 W2 (S2 : Sta w 27 [(1, (.box 24 (Zx s p n c xs)))] [(5, iV e), (2, Is (.int .u64 0)), (3, iV 0), (4, bF), (0, TB)] _ _ _)
  refine wp_stmt_seq [.val (Part a2 1 1), .val (Nx p n c xs), .val (iV e), .val ((TWO (NN (M)) (IS (.int .i64 0))) w.heap.size), .val ((TWO (NN (M)) (IS (.int .i64 0))) w.heap.size), .val ((NN (M)) w.heap.size), .val (iV 0), .val ((NN (M)) w.heap.size), .val (iV 0)] [.inr 0] [.inl 7, .inr 0, .inr 1, .inr 2, .inr 3, .inr 4] follows S2 rfl (by kernel_rfl) ?_ ?_
  · repeat' refine And.intro ?_ ?_
    · trivial
    · exact owe_part rfl wA rfl (k := 0) rfl (by kernel_rfl) rfl (fun ρ w b h => part_int1 ρ _ _ w b 0 h)
    · exact owe_pload rfl wA rfl (oO 0 13) (k := 0) rfl (by kernel_rfl) rfl (fun ρ w b u h1 h2 h3 => pload_mag zx_mag ρ _ _ w b u h1 h2 h3)
    · exact mS 0 5
    · exact cc2 wA (qO 1 14 rfl) (qO 2 15 rfl) (fresh_two (fresh_nn _) (fresh_is _)) (fun w u0 u1 h0 h1 => Gives.cast ((fun w u v h1 h2 => g_shr (z := ((e : Nat) : Int)) (by omega) (by omega) (by omega) w u v ((nx_nv (Nat.le_refl _)) _ _ h1) h2) w u0 u1 h0 h1) (by rw [hM]))
    · exact mO 3 16
    · exact e20 wA (oO 4 12)
    · exact e21 wA (oO 4 12)
    · exact mO 5 17
    · exact mO 6 18
  intro B3 a3 W3 (S3 : Sta w 27 [(1, (.box 24 (Zx s p n c xs)))] [(6, ((NN (M)) w.heap.size)), (5, iV e), (2, Is (.int .u64 0)), (3, iV 0), (4, bF), (0, TB)] _ _ _)
  refine wp_stmt_seq [.val ((NN (M)) w.heap.size), .val (Is (.int .u64 M)), .val (iV e), .val (Part a3 1 1), .val (Nx p n c xs), .val (iV (tz (val xs) : Nat)), .val (iV e), kF, .val (Is (.int .u64 M)), .val (iV e), kF] [.inr 0] [.inl 8, .inl 9, .inl 10, .inr 1, .inr 5] follows S3 rfl (by kernel_rfl) ?_ ?_
  · repeat' refine And.intro ?_ ?_
    · trivial
    · exact mS 0 6
    · exact cc1 wA (qO 0 19 rfl) (fresh_is _) (fun w u h1 => g_word (by omega) hM2 w u ((nn_nv hM2) _ _ h1))
    · exact mS 1 5
    · exact owe_part rfl wA rfl (k := 0) rfl (by kernel_rfl) rfl (fun ρ w b h => part_int1 ρ _ _ w b 0 h)
    · exact owe_pload rfl wA rfl (oO 3 22) (k := 0) rfl (by kernel_rfl) rfl (fun ρ w b u h1 h2 h3 => pload_mag zx_mag ρ _ _ w b u h1 h2 h3)
    · exact owe_call1T rfl wA rfl (oO 4 23) (oS 5 0) (fresh_is _) rfl (fun args w => by go_simp) (fun w u hT h1 => g_noughts (by omega) w u hT ((nx_nv (Nat.le_refl _)) _ _ h1))
    · exact mS 1 5
    · exact b_geq_int_f wA (oO 5 24) (oO 6 25) (h := hI)
    · exact mO 1 20
    · exact mO 2 21
    · exact mO 7 26
  intro B4 a4 W4 (S4 : Sta w 27 [(1, (.box 24 (Zx s p n c xs)))] [(2, Is (.int .u64 M)), (3, iV e), (4, bF), (5, iV e), (0, TB)] _ _ _)
  refine wp_ret ?_
  exact end_three S4 rfl (res_tmp S4 0 2 rfl) (res_tmp S4 1 3 rfl) (res_tmp S4 2 4 rfl)


/-- What Top says. -/
def tE (A : Int) : Nat := Go.bitLen A.natAbs - 53
def tM (A : Int) : Nat := A.natAbs / 2 ^ tE A
def tI (A : Int) : Bool := decide (A.natAbs % 2 ^ tE A = 0)
theorem tM_lt (A : Int) : tM A < 9007199254740992 := by
  unfold tM
  refine Nat.div_lt_of_lt_mul ?_
  rw [show (9007199254740992 : Nat) = 2 ^ 53 from rfl, ← Nat.pow_add]
  refine Nat.lt_of_lt_of_le (bitLen_spec A.natAbs).1 (Nat.pow_le_pow_right (by omega) ?_)
  unfold tE
  omega
theorem tM_two (A : Int) : (digs (tM A)).length ≤ 2 := by
  have := tM_lt A
  exact digs_length_le (by omega)
theorem tI_tz (A : Int) : A.natAbs % 2 ^ tE A = 0 ↔ tE A ≤ tz A.natAbs := by
  by_cases h0 : A.natAbs = 0
  · have e : tE A = 0 := by unfold tE; rw [h0]; rfl
    rw [e, h0]
    simp
  · exact (tz_ge h0).symm
theorem g_ztop {A : Int} {k : Nat} (hk : k ≤ 1048576) : ∀ w u, T32 w → Zv A k u w → Calls Tryz.prog 48 #[u] w (Gives (THREE (IS (.int .u64 (tM A : Nat))) (IS (.int .i64 (tE A : Nat))) (IS (.bool (tI A)))) w) := by
  rintro w u hT ⟨s, p, n, c, xs, rfl, h, eA, hn⟩
  have ex : A.natAbs = val xs := by rw [← eA, sg_abs]
  have h1 := bl_len h.dl
  have hM : val xs / 2 ^ ((tE A : Nat) : Int).toNat = tM A := by unfold tM; rw [Int.toNat_natCast, ex]
  have he : (Go.bitLen A.natAbs ≤ 53 ∧ tE A = 0) ∨ (53 ≤ Go.bitLen A.natAbs ∧ tE A = Go.bitLen A.natAbs - 53) := by unfold tE; omega
  by_cases hI : A.natAbs % 2 ^ tE A = 0
  · have h2 := (tI_tz A).1 hI
    have e3 : tI A = true := decide_eq_true hI
    rw [e3]
    exact ztop_true w s p n c xs h A eA (by omega) hT _ _ _ rfl (by rw [ex]; omega) he hM (tM_two A) (by rw [← ex]; omega)
  · have h2 : ¬ tE A ≤ tz A.natAbs := fun h => hI ((tI_tz A).2 h)
    have e3 : tI A = false := decide_eq_false hI
    rw [e3]
    exact ztop_false w s p n c xs h A eA (by omega) hT _ _ _ rfl (by rw [ex]; omega) he hM (tM_two A) (by rw [← ex]; omega)
end Go.Proofs.YtgalppimdmjdcabGreatDoor
