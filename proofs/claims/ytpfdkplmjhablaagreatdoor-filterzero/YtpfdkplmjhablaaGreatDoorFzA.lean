import Derived.Laws.FloatArith
import Derived.Test.YtpfdkplmjhablaaGreatDoorSetA
import Derived.Laws.Externs
import Derived.Laws.Cover2
import Derived.Handy
import Derived.Test.YtpfdkplmjhablaaGreatDoorGsA
import Derived.Test.YtpfdkplmjhablaaGreatDoorSetQ
import Derived.Test.YtpfdkplmjhablaaGreatDoorAmD
/-
 Floats by their places: each float that is no NaN has a place, a whole number; both noughts have one; floats stand to each other as their places do.
-/
namespace Go.Proofs.YtpfdkplmjhablaaGreatDoor
open Go
set_option linter.unusedSimpArgs false
set_option linter.unusedVariables false
set_option maxRecDepth 20000

/-- The place of a float: none of a NaN. -/
def plc (b : Nat) : Option Int :=
 if b % 9223372036854775808 ≤ 9218868437227405312 then
  some (if b / 9223372036854775808 % 2 = 1 then -((b % 9223372036854775808 : Nat) : Int) else ((b % 9223372036854775808 : Nat) : Int))
 else none
/-- The magnitude at a place from nought on, in units of the least float. -/
def mg (r : Nat) : Nat := if r < 4503599627370496 then r else (4503599627370496 + r % 4503599627370496) * 2 ^ (r / 4503599627370496 - 1)
/-- The number at a place. -/
def vp (p : Int) : Int := if p < 0 then -(mg p.natAbs : Int) else mg p.natAbs

end Go.Proofs.YtpfdkplmjhablaaGreatDoor

/-
 The calls of package math and of ival that take floats by their bits and hand back floats or bools.
-/
namespace Go.Proofs.YtpfdkplmjhablaaGreatDoor
open Go.RowKit Nt
set_option linter.unusedSimpArgs false
set_option linter.unusedVariables false
set_option maxRecDepth 20000

theorem run_bits (b : Nat) (w : World) : (callFunc 25 #[.float .f64 b]).run Tryz.prog w = .ok (.value (.int .u64 (b : Int))) w := by
 rw [run_callFunc_extern (e := Extern.MathFloatBits.float64bits) Tryz.func25 (by kernel_rfl) (by kernel_rfl) (by kernel_rfl) (by kernel_rfl)]
 rfl
theorem wrap_u64 {x : Nat} (h : x < 18446744073709551616) : IntKind.u64.wrap (x : Int) = x := by
 simp [IntKind.wrap, IntKind.bits, IntKind.signed]; omega
/-- A call that hands back this value and leaves the world as it was. -/
def Pur (f : FuncId) (args : Array Value) (v : Value) : Prop := ∀ w, Calls Tryz.prog f args w fun e w' => e = .returned v ∧ w' = w

end Go.Proofs.YtpfdkplmjhablaaGreatDoor

/-
 Places and steps: the program's Down and Up, the document's, and their helpers.
-/
namespace Go.Proofs.YtpfdkplmjhablaaGreatDoor
open Go.RowKit Nt
set_option linter.unusedSimpArgs false
set_option linter.unusedVariables false
set_option maxRecDepth 20000

/-- What the program takes for a float's place. -/
def pl (b : Nat) : Int := if 9223372036854775808 ≤ b then -((b % 9223372036854775808 : Nat) : Int) else ((b % 9223372036854775808 : Nat) : Int)
/-- A call that hands back a float of that place. -/
def PurF (f : FuncId) (args : Array Value) (p : Option Int) : Prop := ∃ r, r < 18446744073709551616 ∧ plc r = p ∧ Pur f args (.float .f64 r)

end Go.Proofs.YtpfdkplmjhablaaGreatDoor

/-
 Down and Up, the program's and the document's; low, high, equal.
-/
namespace Go.Proofs.YtpfdkplmjhablaaGreatDoor
open Go.RowKit Nt
set_option linter.unusedSimpArgs false
set_option linter.unusedVariables false
set_option maxRecDepth 20000

end Go.Proofs.YtpfdkplmjhablaaGreatDoor

/-
 The document's Down, low and high; the law's equal.
-/
namespace Go.Proofs.YtpfdkplmjhablaaGreatDoor
open Go.RowKit Nt
set_option linter.unusedSimpArgs false
set_option linter.unusedVariables false
set_option maxRecDepth 20000

end Go.Proofs.YtpfdkplmjhablaaGreatDoor

/-
 Floats and intervals in the logic of statements.
-/
namespace Go.Proofs.YtpfdkplmjhablaaGreatDoor
open Go Go.RowKit Nt
set_option linter.unusedSimpArgs false
set_option linter.unusedVariables false
set_option maxRecDepth 20000

/-- A float of that place. -/
def FL (p : Option Int) : Pr := fun v _ => ∃ b, v = .float .f64 b ∧ b < 18446744073709551616 ∧ plc b = p
def FLN (p : Option Int) : Nat → Pr := fun _ => FL p
theorem sf_mk {φ ψ : Pr} {x y : Nat} {w : World} (h1 : φ (.float .f64 x) w) (h2 : ψ (.float .f64 y) w) : SF [φ, ψ] (.agg #[.float .f64 x, .float .f64 y]) w := by
 refine ⟨_, rfl, rfl, by simp [Value.oneCell'], fun f q hq => ?_⟩
 match f, hq with
 | 0, hq => simp at hq; subst hq; exact ⟨_, rfl, h1⟩
 | 1, hq => simp at hq; subst hq; exact ⟨_, rfl, h2⟩
theorem ix_mk {x y : Nat} {w : World} : SF [Is (.float .f64 x), Is (.float .f64 y)] (.agg #[.float .f64 x, .float .f64 y]) w := sf_mk rfl rfl
/-! What calls give. -/
theorem Pur.gives {f : FuncId} {args : Array Value} {v : Value} (h : Pur f args v) (w : World) : Calls Tryz.prog f args w (Gives (IS v) w) := (h w).mono fun e w' ⟨he, hw⟩ => by subst hw; exact ⟨v, he, Below.refl _ _, rfl⟩
theorem PurF.gives {f : FuncId} {args : Array Value} {p : Option Int} (h : PurF f args p) (w : World) : Calls Tryz.prog f args w (Gives (FLN p) w) := by
 obtain ⟨r, h1, h2, h3⟩ := h
 exact (h3 w).mono fun e w' ⟨he, hw⟩ => by subst hw; exact ⟨_, he, Below.refl _ _, r, rfl, h1, h2⟩
/-! The struct's rules. -/
theorem strct_ival : Strct 57 2 := ⟨⟨_, Tryz.underlying57, rfl⟩, by kernel_rfl⟩
theorem shp_i0 : Shp 2 (Is (.agg #[.float .f64 0, .float .f64 0])) := fun u w h => ⟨_, h, rfl, by simp [Value.oneCell']⟩
theorem shp_iv {p q : Pr} : Shp 2 (SF [p, q]) := shp_sf (ps := [p, q])
theorem alloc_ival (ρ : Operand → Value) (o : Oper) (w : World) : (execOp ρ { o with op := .alloc 57 }).run Tryz.prog w = .ok (.value (.pointer (some ⟨w.heap.size, 0, none⟩))) (w.alloc (.cells (Value.agg #[.float .f64 0, .float .f64 0]).cells 57 (0, 0))) := by
  unfold execOp
  go_simp
theorem part_ival0 (ρ : Operand → Value) (o : Oper) (x : Operand) (w : World) (b f : Nat) (h : ρ x = .pointer (some ⟨b, f, none⟩)) : (execOp ρ { o with op := .fieldAddr 57 x 0 }).run Tryz.prog w = .ok (.value (.pointer (some ⟨b, f, none⟩))) w := by
  unfold execOp
  go_simp
theorem part_ival1 (ρ : Operand → Value) (o : Oper) (x : Operand) (w : World) (b f : Nat) (h : ρ x = .pointer (some ⟨b, f, none⟩)) : (execOp ρ { o with op := .fieldAddr 57 x 1 }).run Tryz.prog w = .ok (.value (.pointer (some ⟨b, f + 1, none⟩))) w := by
  unfold execOp
  go_simp
theorem load1_f64 : Load1 55 := fun ρ w o x b f u hx hc => by
  unfold execOp
  go_simp
theorem ploadI {ps : List Pr} {χ : Pr} {f : Nat} {T T' : TypeId} (hp : ps[f]? = some χ) (hL : Load1 T') (ρ : Operand → Value) (o : Oper) (x : Operand) (w : World) (b : Nat) (u : Value) (hφ : SF ps u w) (hx : ρ x = .pointer (some ⟨b, f, none⟩)) (hb : w.heap[b]? = some (.cells u.cells T (0, 0))) :
  ∃ v, (execOp ρ { o with op := .load T' x }).run Tryz.prog w = .ok (.value v) w ∧ ∀ w', SF ps u w' → χ v w' := by
 obtain ⟨cs, rfl, h1, h2, h3⟩ := hφ
 obtain ⟨v, hv, _⟩ := h3 f χ hp
 refine ⟨v, hL ρ w o x b f v hx (sf_cell hb hv), fun w' h' => ?_⟩
 obtain ⟨_, _, h4⟩ := h'.get
 obtain ⟨v', hv', hχ⟩ := h4 f χ hp
 rw [hv] at hv'
 cases hv'
 exact hχ
section
variable {ops : Array Oper} {l : List Kd} {bx : Bxs} {sl : List (Tmp × Pr)} {i : Nat} {o : Oper} {Q : Exit → Act → World → Prop} {a0 : Act} {n : Nat} {w0 : World}
theorem owe_build_iv0 (ho : ops[i]? = some o) (hw : Wants ops l bx sl i o) (hop : o.op = .build 57 #[]) (hk : kdAt l i = .val (SF [Is (.float .f64 0), Is (.float .f64 0)])) : Owed Tryz.prog ops Q l bx sl a0 n w0 i :=
  owe_val ho hw hk fun vs B a w c => by
    refine ⟨.agg #[.float .f64 0, .float .f64 0], ?_, fun _ _ => ix_mk⟩
    unfold execOp
    rw [hop]
    go_simp
end
end Go.Proofs.YtpfdkplmjhablaaGreatDoor

/-
 Package filter: a filter that no call made: nil, or the zero one.
-/
namespace Go.Proofs.YtpfdkplmjhablaaGreatDoor
open Go Go.RowKit Nt
set_option linter.unusedSimpArgs false
set_option linter.unusedVariables false
set_option maxRecDepth 20000

/-- The zero filter. -/
abbrev ZFV : Value := .agg #[.slice none 0 0, .slice none 0 0, .pointer none, .int .u32 0, .int .i32 0, .int .u32 0, .slice none 0 0, .int .u64 0]
/-- A pointer at the zero filter. -/
def ZFP : Pr := fun v w => ∃ g, v = .pointer (some ⟨g, 0, none⟩) ∧ w.heap[g]? = some (.cells (ZFV).cells 54 (0, 0))
/-- A filter that no call made. -/
def NMD : Pr := fun v w => v = .pointer none ∨ ZFP v w
theorem nil_nmd : ∀ v w, Is (.pointer none) v w → NMD v w := fun v w h => Or.inl h
theorem zfp_nmd : ∀ v w, ZFP v w → NMD v w := fun v w h => Or.inr h
/-- Anything. -/
def Any : Pr := fun _ _ => True
theorem to_any {φ : Pr} : ∀ v w, φ v w → Any v w := fun _ _ _ => trivial
/-- A rational, whatever it holds. -/
def R4 : Pr := fun v w => ∃ cs, v = .agg cs ∧ cs.size = 4 ∧ cs.all (·.oneCell') = true
theorem shp_r4 : Shp 4 R4 := fun u w ⟨cs, e, h1, h2⟩ => ⟨cs, e, h1, h2⟩
abbrev IV0 : Nat → Pr := fun _ => SF [Is (.float .f64 0), Is (.float .f64 0)]
theorem iv0_fix {v : Value} {w w' : World} (h : SF [Is (.float .f64 0), Is (.float .f64 0)] v w) : SF [Is (.float .f64 0), Is (.float .f64 0)] v w' := by
 obtain ⟨cs, e, l, a, hp⟩ := h
 refine ⟨cs, e, l, a, fun k φ hk => ?_⟩
 obtain ⟨x, hx, hφ⟩ := hp k φ hk
 refine ⟨x, hx, ?_⟩
 match k, hk with
 | 0, hk => simp at hk; subst hk; exact hφ
 | 1, hk => simp at hk; subst hk; exact hφ
 | k + 2, hk => simp at hk
theorem fresh_iv0 : Fresh IV0 := ⟨fun _ _ _ _ _ h => h, fun _ _ _ _ _ _ h _ => iv0_fix h⟩
theorem run_eq0 (ρ : Operand → Value) (o : Oper) (x y : Operand) (w : World) (h1 : ρ x = .int .u64 0) (h2 : ρ y = .int .u64 0) : (execOp ρ { o with op := .binOp .eql 48 x y 48 }).run Tryz.prog w = .ok (.value (.bool true)) w := by
  unfold execOp
  go_simp
section
variable {ops : Array Oper} {l : List Kd} {bx : Bxs} {sl : List (Tmp × Pr)} {i : Nat} {o : Oper} {Q : Exit → Act → World → Prop} {a0 : Act} {n : Nat} {w0 : World}
theorem owe_nilnil {T T' : TypeId} {x : Operand} (ho : ops[i]? = some o) (hw : Wants ops l bx sl i o) (hop : o.op = .binOp .neq T x (.const (.pointer none)) T') (hT : Tryz.prog.underlying T = Tryz.prog.underlying 29) (hx : Opnd ops l bx sl i x (Is (.pointer none))) (hk : kdAt l i = kF) : Owed Tryz.prog ops Q l bx sl a0 n w0 i :=
  owe_is ho hw hk fun vs B a w c => by
    have e : a.eval x = .pointer none := (hx a0 n w0 vs B a w c).now
    unfold execOp
    rw [hop]
    have e2 : a.eval (.const (.pointer none)) = .pointer none := rfl
    generalize a.eval = ρ at e e2
    go_simp
theorem owe_zneq {T T' : TypeId} {x : Operand} (ho : ops[i]? = some o) (hw : Wants ops l bx sl i o) (hop : o.op = .binOp .neq T x (.const (.pointer none)) T') (hT : Tryz.prog.underlying T = Tryz.prog.underlying 29) (hx : Opnd ops l bx sl i x ZFP) (hk : kdAt l i = kT) : Owed Tryz.prog ops Q l bx sl a0 n w0 i :=
  owe_is ho hw hk fun vs B a w c => by
    obtain ⟨g, e, _⟩ := (hx a0 n w0 vs B a w c).now
    unfold execOp
    rw [hop]
    have e2 : a.eval (.const (.pointer none)) = .pointer none := rfl
    generalize a.eval = ρ at e e2
    go_simp
theorem owe_znil {x : Operand} (ho : ops[i]? = some o) (hw : Wants ops l bx sl i o) (hop : o.op = .nilCheck x) (hx : Opnd ops l bx sl i x ZFP) (hk : kdAt l i = .val ZFP) : Owed Tryz.prog ops Q l bx sl a0 n w0 i :=
  owe_val ho hw hk fun vs B a w c => by
    have h := hx a0 n w0 vs B a w c
    obtain ⟨g, e, _⟩ := id h.now
    refine ⟨a.eval x, ?_, h⟩
    rw [e]
    unfold execOp
    rw [hop]
    clear h hx c
    generalize a.eval = ρ at e
    go_simp
theorem owe_zpart {x : Operand} (ho : ops[i]? = some o) (hw : Wants ops l bx sl i o) (hop : o.op = .fieldAddr 54 x 1) (hx : Opnd ops l bx sl i x ZFP) (hk : kdAt l i = .val (AtE 1 (Is (.pointer none)))) : Owed Tryz.prog ops Q l bx sl a0 n w0 i :=
  owe_val ho hw hk fun vs B a w c => by
    have h := hx a0 n w0 vs B a w c
    obtain ⟨g, e, _⟩ := id h.now
    refine ⟨.pointer (some ⟨g, 2, none⟩), ?_, fun w' ev => ?_⟩
    · unfold execOp
      rw [hop]
      clear h hx c
      generalize a.eval = ρ at e
      go_simp
    · obtain ⟨g', e', hg⟩ := h w' ev
      rw [e] at e'
      simp at e'
      subst e'
      refine ⟨g, 2, .pointer none, rfl, fun j x hx => ?_, rfl, rfl⟩
      simp only [World.cell?, hg]
      match j, hx with
      | 0, hx => exact hx
      | j + 1, hx => simp [Value.cells] at hx
theorem owe_zaim {x : Operand} (ho : ops[i]? = some o) (hw : Wants ops l bx sl i o) (hop : o.op = .load 33 x) (hx : Opnd ops l bx sl i x (AtE 1 (Is (.pointer none)))) (hk : kdAt l i = .val (Is (.pointer none))) : Owed Tryz.prog ops Q l bx sl a0 n w0 i :=
  owe_is ho hw hk fun vs B a w c => by
    have h := hx a0 n w0 vs B a w c
    obtain ⟨b, o', u, e, hc, _, rfl⟩ := id h.now
    have hc0 := hc 0 _ rfl
    simp only [Nat.add_zero] at hc0
    unfold execOp
    rw [hop]
    clear h hx c hc
    generalize a.eval = ρ at e
    go_simp
theorem owe_aimnil {T' : TypeId} {x : Operand} (ho : ops[i]? = some o) (hw : Wants ops l bx sl i o) (hop : o.op = .binOp .neq 33 x (.const (.pointer none)) T') (hx : Opnd ops l bx sl i x (Is (.pointer none))) (hk : kdAt l i = kF) : Owed Tryz.prog ops Q l bx sl a0 n w0 i :=
  owe_is ho hw hk fun vs B a w c => by
    have e : a.eval x = .pointer none := (hx a0 n w0 vs B a w c).now
    unfold execOp
    rw [hop]
    have e2 : a.eval (.const (.pointer none)) = .pointer none := rfl
    generalize a.eval = ρ at e e2
    go_simp
theorem owe_zalloc (ho : ops[i]? = some o) (hw : Wants ops l bx sl i o) (hop : o.op = .alloc 54) (hk : kdAt l i = .val ZFP) : Owed Tryz.prog ops Q l bx sl a0 n w0 i :=
  owe_grow ho hw hk fun vs B a w c => by
    have hb : Below w.heap.size w (w.alloc (.cells (ZFV).cells 54)) := (Below.refl _ _).alloc (Nat.le_refl _) _
    refine ⟨.pointer (some ⟨w.heap.size, 0, none⟩), w.alloc (.cells (ZFV).cells 54), ?_, hb, fun w' e' => ⟨w.heap.size, rfl, ?_⟩⟩
    · unfold execOp
      rw [hop]
      generalize a.eval = ρ
      go_simp
    · exact (e'.block w.heap.size (by simp) (fun hB => by have := (c.bnd _ hB).2; omega)).trans (heap_alloc_last _ _)
theorem owe_bits0 {x : Operand} {ts : Array TypeId} (ho : ops[i]? = some o) (hw : Wants ops l bx sl i o) (hop : o.op = .call { callee := .value (.func 25), args := #[x], argTypes := ts }) (hx : Opnd ops l bx sl i x (Is (.float .f64 0))) (hk : kdAt l i = .val (Is (.int .u64 0))) : Owed Tryz.prog ops Q l bx sl a0 n w0 i :=
  owe_is ho hw hk fun vs B a w c => by
    have hxv : a.eval x = .float .f64 0 := (hx a0 n w0 vs B a w c).now
    have hr := run_bits 0 w
    have hf : a.eval (.func 25) = .func (.func 25) #[] #[] := rfl
    unfold execOp
    rw [hop]
    generalize a.eval = ρ at hf hxv
    go_simp
end
end Go.Proofs.YtpfdkplmjhablaaGreatDoor

/-
 Filters that no call made; FilterZero's walk.
-/
namespace Go.Proofs.YtpfdkplmjhablaaGreatDoor
open Go Go.RowKit Nt
set_option linter.unusedSimpArgs false
set_option linter.unusedVariables false
set_option maxRecDepth 20000

set_option maxHeartbeats 400000 in
theorem made_0 (w : World) :
  Calls Tryz.prog 23 #[.pointer none] w (Gives (IS (.bool false)) w) := by
 refine calls_sta (sl := [(0, (Is (.pointer none)))]) Tryz.func23 rfl Tryz.ntmps23 (by simp) (args_cons rfl (is_has _) args_nil) ?_
 intro a0 S0
 refine wq [kF] [] [.inr 0] S0 ?_ ?_
 ·apply jj1
  ·exact mC
 intro _ a1 _ (S1 : Sta w 12 [] [(0, Is (.pointer none))] _ _ _)
 refine wq [.val (Is (.pointer none)), kF, kF, .off, .off, .off, .off, .off, kF, kF] [] [.inl 9] S1 ?_ ?_
 ·repeat' refine And.intro ?_ ?_
  ·trivial
  ·exact mS 0 0
  ·exact owe_nilnil rfl wA rfl rfl (oO 0 3) rfl
  ·exact mO 1 4
  ·exact oF 2 5
  ·exact oF 2 5
  ·exact oF 2 5
  ·exact oF 2 5
  ·exact oF 2 5
  ·exact pF wA (oO 2 5) (opnd_const _)
  ·exact mO 8 11
 intro _ a2 _ (S2 : Sta w 12 [] [(2, bF)] _ _ _)
 refine wp_ret ?_
 exact end_one S2 rfl (res_tmp S2 0 2 rfl)

set_option maxHeartbeats 400000 in
theorem made_z (w : World) (u : Value) (h : Hs w ZFP u) :
  Calls Tryz.prog 23 #[u] w (Gives (IS (.bool false)) w) := by
 refine calls_sta (sl := [(0, ZFP)]) Tryz.func23 rfl Tryz.ntmps23 (by simp) (args_cons rfl (h) args_nil) ?_
 intro a0 S0
 refine wq [kF] [] [.inr 0] S0 ?_ ?_
 ·apply jj1
  ·exact mC
 intro _ a1 _ (S1 : Sta w 12 [] [(0, ZFP)] _ _ _)
 refine wq [.val ZFP, kT, kT, .val ZFP, .val ZFP, .val (AtE 1 (Is (.pointer none))), .val (Is (.pointer none)), kF, kF, kF] [] [.inl 9] S1 ?_ ?_
 ·repeat' refine And.intro ?_ ?_
  ·trivial
  ·exact mS 0 0
  ·exact owe_zneq rfl wA rfl rfl (oO 0 3) rfl
  ·exact mO 1 4
  ·exact mW (wI 2 5) (oS 0 0)
  ·exact owe_znil rfl (wI 2 5) rfl (oO 3 6) rfl
  ·exact owe_zpart rfl (wI 2 5) rfl (oO 4 7) rfl
  ·exact owe_zaim rfl (wI 2 5) rfl (oO 5 8) rfl
  ·exact owe_aimnil rfl (wI 2 5) rfl (oO 6 9) rfl
  ·exact pT wA (oO 2 5) (oO 7 10)
  ·exact mO 8 11
 intro _ a2 _ (S2 : Sta w 12 [] [(2, bF)] _ _ _)
 refine wp_ret ?_
 exact end_one S2 rfl (res_tmp S2 0 2 rfl)


theorem made_n (w : World) (u : Value) (h : Hs w NMD u) : Calls Tryz.prog 23 #[u] w (Gives (IS (.bool false)) w) := by
 rcases h.now with e | ⟨g, e, _⟩
 ·subst e
  exact made_0 w
 ·refine made_z w u (fun w' ev => ?_)
  rcases h w' ev with e' | e'
  ·rw [e] at e'; cases e'
  ·exact e'

set_option maxHeartbeats 400000 in
theorem zref_w (w : World) (u : Value) (h : Hs w NMD u) (v b : Value) (hv : Hs w Any v) (hb : Hs w Any b) :
  Calls Tryz.prog 16 #[u, v, b] w (Gives (IS (.int .i64 7)) w) := by
 refine calls_sta (sl := [(0, NMD), (1, Any), (2, Any)]) Tryz.func16 rfl Tryz.ntmps16 (by simp) (args_cons rfl (h) (args_cons rfl (hv) (args_cons rfl (hb) args_nil))) ?_
 intro a0 S0
 refine wq [.val (iV 0)] [] [.inr 0, .inr 1, .inr 2] S0 ?_ ?_
 ·apply jj1
  ·exact mC
 intro _ a1 _ (S1 : Sta w 24 [] [(0, NMD), (1, Any), (2, Any)] _ _ _)
 refine wp_seq (wp_block ?_)
 refine wq [.val NMD, kF, kT, kT] [] [.inl 3, .inr 0, .inr 1, .inr 2] S1 ?_ ?_
 ·apply jj4
  ·exact mS 0 0
  ·exact ch1 wA (qO 0 8 rfl) (fresh_is _) (fun w u h => made_n w u h)
  ·exact b_not wA (oO 1 9)
  ·exact mO 2 10
 intro _ a2 _ (S2 : Sta w 24 [] [(7, bT), (0, NMD), (1, Any), (2, Any)] _ _ _)
 refine wp_cond_true (S2.bool 0 7 rfl) ?_
 refine wq [.val (iV 7)] [] [.inl 0] S2 ?_ ?_
 ·apply jj1
  ·exact mC
 intro _ a3 _ (S3 : Sta w 24 [] [(6, iV 7)] _ _ _)
 refine wp_ret (inBlkR (thenR ?_))
 exact end_one S3 rfl (res_tmp S3 0 6 rfl)

set_option maxHeartbeats 400000 in
theorem zenc_w (w : World) (u : Value) (h : Hs w NMD u) (v : Value) (hv : Hs w Any v) :
  Calls Tryz.prog 5 #[u, v] w (Gives (TWO IV0 (IS (.int .i64 7))) w) := by
 refine calls_sta (sl := [(0, NMD), (1, Any)]) Tryz.func5 rfl Tryz.ntmps5 (by simp) (args_cons rfl (h) (args_cons rfl (hv) args_nil)) ?_
 intro a0 S0
 refine wq [.new (.box 57 (Is (.agg #[.float .f64 0, .float .f64 0]))), .val (iV 0)] [.inl 0] [.inr 0, .inr 1] S0 ?_ ?_
 ·apply jj2
  ·exact owe_new rfl wA rfl rfl (fun ρ w => alloc_ival ρ _ w)
  ·exact mC
 intro _ a1 _ (S1 : Sta w 17 [(4, (.box 57 (Is (.agg #[.float .f64 0, .float .f64 0]))))] [(0, NMD), (1, Any)] _ _ _)
 refine wp_seq ?_
 refine wq [.val NMD, .val Any, .val (iV 7), .val (iV 7)] [.inr 0] [.inl 3, .inr 0, .inr 1] S1 ?_ ?_
 ·apply jj4
  ·exact mS 0 0
  ·exact mS 1 1
  ·exact owe_callh3 rfl wA rfl (oO 0 7) (oO 1 8) ((opnd_const _).imp to_any) (fresh_is _) rfl (fun args w => by go_simp) (fun w u v b h hv hb => zref_w w u h v b hv hb)
  ·exact mO 2 9
 intro _ a2 _ (S2 : Sta w 17 [(4, (.box 57 (Is (.agg #[.float .f64 0, .float .f64 0]))))] [(6, iV 7), (0, NMD), (1, Any)] _ _ _)
 refine wq [.val (iV 7), kT] [.inr 0] [.inl 1, .inr 0, .inr 1, .inr 2] S2 ?_ ?_
 ·apply jj2
  ·exact mS 0 6
  ·exact b_neq_errno_t wA (oO 0 10) (opnd_const _) (h := by decide)
 intro _ a3 _ (S3 : Sta w 17 [(4, (.box 57 (Is (.agg #[.float .f64 0, .float .f64 0]))))] [(11, bT), (6, iV 7), (0, NMD), (1, Any)] _ _ _)
 refine wp_cond_true (S3.bool 0 11 rfl) ?_
 refine wq [.val (SF [(Is (.float .f64 0)), (Is (.float .f64 0))]), .val (iV 7), .put (.inl 4) (.box 57 (SF [(Is (.float .f64 0)), (Is (.float .f64 0))])), .val (iV 7)] [.inr 0] [.inl 3] S3 ?_ ?_
 ·apply jj4
  ·exact owe_build_iv0 rfl wA rfl rfl
  ·exact mS 1 6
  ·exact owe_set rfl wA rfl (k := 0) rfl (by kernel_rfl) (oO 0 12) (stores_of strct_ival shp_i0 shp_iv) rfl
  ·exact mO 1 13
 intro _ a4 _ (S4 : Sta w 17 [(4, (.box 57 (SF [(Is (.float .f64 0)), (Is (.float .f64 0))])))] [(5, iV 7)] _ _ _)
 refine wp_ret (thenR ?_)
 exact end_two S4 rfl (res_cell S4 0 4 rfl strct_ival shp_iv) (res_tmp S4 0 5 rfl)

set_option maxHeartbeats 400000 in
theorem ztest_w (w : World) (u : Value) (h : Hs w NMD u) (v r : Value) (hv : Hs w Any v) (hr : Hs w R4 r) :
  Calls Tryz.prog 6 #[u, v, r] w (Gives (TWO (IS (.int .i64 0)) (IS (.int .i64 7))) w) := by
 refine calls_sta (sl := [(0, NMD), (1, Any), (2, R4)]) Tryz.func6 rfl Tryz.ntmps6 (by simp) (args_cons rfl (h) (args_cons rfl (hv) (args_cons rfl (hr) args_nil))) ?_
 intro a0 S0
 refine wq [.new (.box 27 R4), .val (iV 0), .val (iV 0)] [.inl 0] [.inr 0, .inr 1] S0 ?_ ?_
 ·apply jj3
  ·exact owe_box rfl wA rfl (oS 2 2) rfl (fun ρ w h => box_rat shp_r4 ρ _ _ w h)
  ·exact mC
  ·exact mC
 intro _ a1 _ (S1 : Sta w 21 [(5, (.box 27 R4))] [(0, NMD), (1, Any)] _ _ _)
 refine wp_seq ?_
 refine wq [.val NMD, .val Any, .val R4, .val (RL1 R4 w.heap.size), .val (iV 7), .val (iV 7)] [.inr 0] [.inl 5, .inr 0, .inr 1] S1 ?_ ?_
 ·apply jj6
  ·exact mS 0 0
  ·exact mS 1 1
  ·exact lod 0 wA (loads_of strct_rat shp_r4)
  ·exact owe_rl1 rfl wA rfl (oO 2 11) shp_r4 rfl
  ·exact ch3 wA (qO 0 9 rfl) (qO 1 10 rfl) ((qO 3 12 rfl).imp to_any) (fresh_is _) (fun w u v b h hv hb => zref_w w u h v b hv hb)
  ·exact mO 4 13
 intro _ a2 _ (S2 : Sta w 21 [(5, (.box 27 R4))] [(8, iV 7), (0, NMD), (1, Any)] _ _ _)
 refine wq [.val (iV 7), kT] [.inr 0] [.inl 1, .inr 0, .inr 1, .inr 2] S2 ?_ ?_
 ·apply jj2
  ·exact mS 0 8
  ·exact b_neq_errno_t wA (oO 0 14) (opnd_const _) (h := by decide)
 intro _ a3 _ (S3 : Sta w 21 [(5, (.box 27 R4))] [(15, bT), (8, iV 7), (0, NMD), (1, Any)] _ _ _)
 refine wp_cond_true (S3.bool 0 15 rfl) ?_
 refine wq [.val (iV 7), .val (iV 0), .val (iV 7)] [] [.inl 1, .inl 2] S3 ?_ ?_
 ·apply jj3
  ·exact mS 1 8
  ·exact mC
  ·exact mO 0 16
 intro _ a4 _ (S4 : Sta w 21 [] [(6, iV 0), (7, iV 7)] _ _ _)
 refine wp_ret (thenR ?_)
 exact end_two S4 rfl (res_tmp S4 0 6 rfl) (res_tmp S4 1 7 rfl)

set_option maxHeartbeats 400000 in
theorem zdecide_w (w : World) (u : Value) (h : Hs w NMD u) (v r : Value) (hv : Hs w Any v) (hr : Hs w R4 r) :
  Calls Tryz.prog 7 #[u, v, r] w (Gives (TWO (IS (.bool false)) (IS (.int .i64 7))) w) := by
 refine calls_sta (sl := [(0, NMD), (1, Any), (2, R4)]) Tryz.func7 rfl Tryz.ntmps7 (by simp) (args_cons rfl (h) (args_cons rfl (hv) (args_cons rfl (hr) args_nil))) ?_
 intro a0 S0
 refine wq [.new (.box 27 R4), kF, .val (iV 0)] [.inl 0] [.inr 0, .inr 1] S0 ?_ ?_
 ·apply jj3
  ·exact owe_box rfl wA rfl (oS 2 2) rfl (fun ρ w h => box_rat shp_r4 ρ _ _ w h)
  ·exact mC
  ·exact mC
 intro _ a1 _ (S1 : Sta w 50 [(5, (.box 27 R4))] [(0, NMD), (1, Any)] _ _ _)
 refine wp_seq ?_
 refine wq [.val NMD, .val Any, .val R4, .val (RL1 R4 w.heap.size), .val (iV 7), .val (iV 7)] [.inr 0] [.inl 5, .inr 0, .inr 1] S1 ?_ ?_
 ·apply jj6
  ·exact mS 0 0
  ·exact mS 1 1
  ·exact lod 0 wA (loads_of strct_rat shp_r4)
  ·exact owe_rl1 rfl wA rfl (oO 2 14) shp_r4 rfl
  ·exact ch3 wA (qO 0 12 rfl) (qO 1 13 rfl) ((qO 3 15 rfl).imp to_any) (fresh_is _) (fun w u v b h hv hb => zref_w w u h v b hv hb)
  ·exact mO 4 16
 intro _ a2 _ (S2 : Sta w 50 [(5, (.box 27 R4))] [(8, iV 7), (0, NMD), (1, Any)] _ _ _)
 refine wq [.val (iV 7), kT] [.inr 0] [.inl 1, .inr 0, .inr 1, .inr 2] S2 ?_ ?_
 ·apply jj2
  ·exact mS 0 8
  ·exact b_neq_errno_t wA (oO 0 17) (opnd_const _) (h := by decide)
 intro _ a3 _ (S3 : Sta w 50 [(5, (.box 27 R4))] [(18, bT), (8, iV 7), (0, NMD), (1, Any)] _ _ _)
 refine wp_cond_true (S3.bool 0 18 rfl) ?_
 refine wq [.val (iV 7), kF, .val (iV 7)] [] [.inl 1, .inl 2] S3 ?_ ?_
 ·apply jj3
  ·exact mS 1 8
  ·exact mC
  ·exact mO 0 19
 intro _ a4 _ (S4 : Sta w 50 [] [(6, bF), (7, iV 7)] _ _ _)
 refine wp_ret (thenR ?_)
 exact end_two S4 rfl (res_tmp S4 0 6 rfl) (res_tmp S4 1 7 rfl)

set_option maxHeartbeats 400000 in
theorem zcnt_w (w : World) (u : Value) (h : Hs w NMD u) :
  Calls Tryz.prog 8 #[u] w (Gives (TWO (IS (.int .i64 0)) (IS (.int .i64 0))) w) := by
 refine calls_sta (sl := [(0, NMD)]) Tryz.func8 rfl Tryz.ntmps8 (by simp) (args_cons rfl (h) args_nil) ?_
 intro a0 S0
 refine wq [.val (iV 0), .val (iV 0)] [] [.inr 0] S0 ?_ ?_
 ·apply jj2
  ·exact mC
  ·exact mC
 intro _ a1 _ (S1 : Sta w 13 [] [(0, NMD)] _ _ _)
 refine wp_seq ?_
 refine wq [.val NMD, kF, kT] [] [.inl 2, .inr 0] S1 ?_ ?_
 ·apply jj3
  ·exact mS 0 0
  ·exact ch1 wA (qO 0 4 rfl) (fresh_is _) (fun w u h => made_n w u h)
  ·exact b_not wA (oO 1 5)
 intro _ a2 _ (S2 : Sta w 13 [] [(6, bT), (0, NMD)] _ _ _)
 refine wp_cond_true (S2.bool 0 6 rfl) ?_
 refine wq [.val (iV 0), .val (iV 0)] [] [.inl 0, .inl 1] S2 ?_ ?_
 ·apply jj2
  ·exact mC
  ·exact mC
 intro _ a3 _ (S3 : Sta w 13 [] [(2, iV 0), (3, iV 0)] _ _ _)
 refine wp_ret (thenR ?_)
 exact end_two S3 rfl (res_tmp S3 0 2 rfl) (res_tmp S3 1 3 rfl)

set_option maxHeartbeats 400000 in
theorem zres_w (w : World) (u : Value) (h : Hs w NMD u) :
  Calls Tryz.prog 10 #[u] w (Gives (IS (.int .i64 7)) w) := by
 refine calls_sta (sl := [(0, NMD)]) Tryz.func10 rfl Tryz.ntmps10 (by simp) (args_cons rfl (h) args_nil) ?_
 intro a0 S0
 refine wq [.val (iV 0)] [] [.inr 0] S0 ?_ ?_
 ·apply jj1
  ·exact mC
 intro _ a1 _ (S1 : Sta w 10 [] [(0, NMD)] _ _ _)
 refine wp_seq ?_
 refine wq [.val NMD, kF, kT] [] [.inl 2, .inr 0] S1 ?_ ?_
 ·apply jj3
  ·exact mS 0 0
  ·exact ch1 wA (qO 0 3 rfl) (fresh_is _) (fun w u h => made_n w u h)
  ·exact b_not wA (oO 1 4)
 intro _ a2 _ (S2 : Sta w 10 [] [(5, bT), (0, NMD)] _ _ _)
 refine wp_cond_true (S2.bool 0 5 rfl) ?_
 refine wq [.val (iV 7)] [] [.inl 0] S2 ?_ ?_
 ·apply jj1
  ·exact mC
 intro _ a3 _ (S3 : Sta w 10 [] [(2, iV 7)] _ _ _)
 refine wp_ret (thenR ?_)
 exact end_one S3 rfl (res_tmp S3 0 2 rfl)

set_option maxHeartbeats 400000 in
theorem ends_0 (w : World) :
  Calls Tryz.prog 9 #[.float .f64 0, .float .f64 0] w (Gives (IS (.bool true)) w) := by
 refine calls_sta (sl := [(0, (Is (.float .f64 0))), (1, (Is (.float .f64 0)))]) Tryz.func9 rfl Tryz.ntmps9 (by simp) (args_cons rfl (is_has _) (args_cons rfl (is_has _) args_nil)) ?_
 intro a0 S0
 refine wq [kF] [] [.inr 0, .inr 1] S0 ?_ ?_
 ·apply jj1
  ·exact mC
 intro _ a1 _ (S1 : Sta w 18 [] [(0, Is (.float .f64 0)), (1, Is (.float .f64 0))] _ _ _)
 refine wq [.val (Is (.float .f64 0)), .val (Is (.int .u64 0)), .val (Is (.float .f64 0)), .val (Is (.int .u64 0)), kT, kT, .off, .off, .val (Is (undef)), .off, .off, .off, kT, kT] [] [.inl 13] S1 ?_ ?_
 ·repeat' refine And.intro ?_ ?_
  ·trivial
  ·exact mS 0 0
  ·exact owe_bits0 rfl wA rfl (oO 0 5) rfl
  ·exact mS 1 1
  ·exact owe_bits0 rfl wA rfl (oO 2 7) rfl
  ·exact owe_bin rfl wA rfl (oO 1 6) (oO 3 8) rfl (fun ρ w h1 h2 => by exact run_eq0 ρ _ _ _ w h1 h2)
  ·exact mO 4 9
  ·exact oF 5 10
  ·exact oF 5 10
  ·exact owe_offv 5 10 rfl rfl rfl (by kernel_rfl) rfl (by decide)
  ·exact owe_offu 8 13 rfl rfl rfl (by kernel_rfl) rfl
  ·exact owe_offu 8 13 rfl rfl rfl (by kernel_rfl) rfl
  ·exact oF 5 10
  ·exact pT wA (oO 5 10) (opnd_const _)
  ·exact mO 12 17
 intro _ a2 _ (S2 : Sta w 18 [] [(4, bT)] _ _ _)
 refine wp_ret ?_
 exact end_one S2 rfl (res_tmp S2 0 4 rfl)

abbrev q322p0 (w : World) : Rk := .box 57 (IV0 w.heap.size)
abbrev q322p1  : Rk := .box 27 R4
abbrev q322p2 (w : World) : Pr := (TWO (IS (.int .i64 0)) (IS (.int .i64 7))) w.heap.size
abbrev q322p3 (w : World) : Pr := (TWO (IS (.bool false)) (IS (.int .i64 7))) w.heap.size
abbrev q322p4 (w : World) : Pr := (TWO (IS (.int .i64 0)) (IS (.int .i64 0))) w.heap.size
set_option maxHeartbeats 2000000 in
theorem fz_w (w : World) (v r : Value) (hv : Hs w Any v) (hr : Hs w R4 r) :
  Calls Tryz.prog 3 #[v, r] w (Gives (IS (.bool true)) w) := by
 refine calls_sta (sl := [(0, Any), (1, R4)]) Tryz.func3 rfl Tryz.ntmps3 (by simp) (args_cons rfl (hv) (args_cons rfl (hr) args_nil)) ?_
 intro a0 S0
 refine wq [.new (q322p1), kF] [.inl 0] [.inr 0] S0 ?_ ?_
 ·apply jj2
  ·exact owe_box rfl wA rfl (oS 1 1) rfl (fun ρ w h => box_rat shp_r4 ρ _ _ w h)
  ·exact mC
 intro _ a1 _ (S1 : Sta w 152 [(3, (q322p1))] [(0, Any)] _ _ _)
 refine wp_seq ?_
 refine wq [kT, kF] [.inr 0] [.inl 1, .inr 0] S1 ?_ ?_
 ·apply jj2
  ·exact owe_call0 rfl wA rfl  (fresh_is _) rfl (fun args w => by go_simp) (fun w => falive_w w)
  ·exact b_not wA (oO 0 23)
 intro _ a2 _ (S2 : Sta w 152 [(3, (q322p1))] [(24, bF), (0, Any)] _ _ _)
 refine wp_cond_false (S2.bool 0 24 rfl) (wp_skip (thenN ?_))
 refine wq [.val (Is (.pointer none))] [.inr 0] [.inl 0, .inr 1] S2 ?_ ?_
 ·apply jj1
  ·exact mC
 intro _ a3 _ (S3 : Sta w 152 [(3, (q322p1))] [(5, Is (.pointer none)), (0, Any)] _ _ _)
 refine wq [.val ZFP] [.inr 0] [.inl 0, .inr 0, .inr 1] S3 ?_ ?_
 ·apply jj1
  ·exact owe_zalloc rfl wA rfl rfl
 intro _ a4 _ (S4 : Sta w 152 [(3, (q322p1))] [(6, ZFP), (5, Is (.pointer none)), (0, Any)] _ _ _)
 refine wq [.val (Is (.pointer none)), .val Any, .val ((TWO IV0 (IS (.int .i64 7))) w.heap.size), .val ((TWO IV0 (IS (.int .i64 7))) w.heap.size), .val (IV0 w.heap.size), .val (iV 7), .new (.box 57 (Is (.agg #[.float .f64 0, .float .f64 0]))), .put (.inr 6) (q322p0 w), .val (iV 7)] [.inr 0, .inl 6] [.inl 8, .inr 0, .inr 1, .inr 2] S4 ?_ ?_
 ·repeat' refine And.intro ?_ ?_
  ·trivial
  ·exact mS 1 5
  ·exact mS 2 0
  ·exact ch2 wA ((qO 0 26 rfl).imp nil_nmd) (qO 1 27 rfl) (fresh_two fresh_iv0 (fresh_is _)) (fun w u v h hv => zenc_w w u h v hv)
  ·exact mO 2 28
  ·exact e20 wA (oO 3 25)
  ·exact e21 wA (oO 3 25)
  ·exact owe_new rfl wA rfl rfl (fun ρ w => alloc_ival ρ _ w)
  ·exact owe_put 6 rfl wA rfl (by kernel_rfl) rfl (oO 4 29) (stores_of strct_ival shp_i0 shp_iv) rfl
  ·exact mO 5 30
 intro _ a5 _ (S5 : Sta w 152 [(3, (q322p1)), (7, (q322p0 w))] [(8, iV 7), (6, ZFP), (5, Is (.pointer none)), (0, Any)] _ _ _)
 refine wq [.val Any, .val ((TWO IV0 (IS (.int .i64 7))) w.heap.size), .val ((TWO IV0 (IS (.int .i64 7))) w.heap.size), .val (IV0 w.heap.size), .val (iV 7), .new (.box 57 (Is (.agg #[.float .f64 0, .float .f64 0]))), .put (.inr 5) (q322p0 w), .val (iV 7)] [.inr 0, .inr 1, .inl 5] [.inl 7, .inr 0, .inr 1, .inr 2, .inr 3] S5 ?_ ?_
 ·repeat' refine And.intro ?_ ?_
  ·trivial
  ·exact mS 3 0
  ·exact ch2 wA ((qS 1 6 rfl).imp zfp_nmd) (qO 0 32 rfl) (fresh_two fresh_iv0 (fresh_is _)) (fun w u v h hv => zenc_w w u h v hv)
  ·exact mO 1 33
  ·exact e20 wA (oO 2 31)
  ·exact e21 wA (oO 2 31)
  ·exact owe_new rfl wA rfl rfl (fun ρ w => alloc_ival ρ _ w)
  ·exact owe_put 5 rfl wA rfl (by kernel_rfl) rfl (oO 3 34) (stores_of strct_ival shp_i0 shp_iv) rfl
  ·exact mO 4 35
 intro _ a6 _ (S6 : Sta w 152 [(3, (q322p1)), (7, (q322p0 w)), (9, (q322p0 w))] [(10, iV 7), (8, iV 7), (6, ZFP), (5, Is (.pointer none)), (0, Any)] _ _ _)
 refine wq [.val (Is (.pointer none)), .val Any, .val R4, .val (q322p2 w), .val (q322p2 w), .val (iV 0), .val (iV 7), .val (iV 0), .val (iV 7)] [.inr 0, .inr 1, .inr 2] [.inl 7, .inl 8, .inr 0, .inr 1, .inr 2, .inr 3, .inr 4] S6 ?_ ?_
 ·repeat' refine And.intro ?_ ?_
  ·trivial
  ·exact mS 3 5
  ·exact mS 4 0
  ·exact lod 0 wA (loads_of strct_rat shp_r4)
  ·exact ch3 wA ((qO 0 37 rfl).imp nil_nmd) (qO 1 38 rfl) (qO 2 39 rfl) (fresh_two (fresh_is _) (fresh_is _)) (fun w u v r h hv hr => ztest_w w u h v r hv hr)
  ·exact mO 3 40
  ·exact e20 wA (oO 4 36)
  ·exact e21 wA (oO 4 36)
  ·exact mO 5 41
  ·exact mO 6 42
 intro _ a7 _ (S7 : Sta w 152 [(3, (q322p1)), (7, (q322p0 w)), (9, (q322p0 w))] [(11, iV 0), (12, iV 7), (10, iV 7), (8, iV 7), (6, ZFP), (5, Is (.pointer none)), (0, Any)] _ _ _)
 refine wq [.val Any, .val R4, .val (q322p2 w), .val (q322p2 w), .val (iV 0), .val (iV 7), .val (iV 0), .val (iV 7)] [.inr 0, .inr 1, .inr 2] [.inl 6, .inl 7, .inr 0, .inr 1, .inr 2, .inr 3, .inr 4, .inr 5, .inr 6] S7 ?_ ?_
 ·repeat' refine And.intro ?_ ?_
  ·trivial
  ·exact mS 6 0
  ·exact lod 0 wA (loads_of strct_rat shp_r4)
  ·exact ch3 wA ((qS 4 6 rfl).imp zfp_nmd) (qO 0 44 rfl) (qO 1 45 rfl) (fresh_two (fresh_is _) (fresh_is _)) (fun w u v r h hv hr => ztest_w w u h v r hv hr)
  ·exact mO 2 46
  ·exact e20 wA (oO 3 43)
  ·exact e21 wA (oO 3 43)
  ·exact mO 4 47
  ·exact mO 5 48
 intro _ a8 _ (S8 : Sta w 152 [(3, (q322p1)), (7, (q322p0 w)), (9, (q322p0 w))] [(13, iV 0), (14, iV 7), (11, iV 0), (12, iV 7), (10, iV 7), (8, iV 7), (6, ZFP), (5, Is (.pointer none)), (0, Any)] _ _ _)
 refine wq [.val (Is (.pointer none)), .val Any, .val R4, .val (q322p3 w), .val (q322p3 w), kF, .val (iV 7), kF, .val (iV 7)] [.inr 0, .inr 1, .inr 2] [.inl 7, .inl 8, .inr 0, .inr 1, .inr 2, .inr 3, .inr 4, .inr 5, .inr 6, .inr 7, .inr 8] S8 ?_ ?_
 ·repeat' refine And.intro ?_ ?_
  ·trivial
  ·exact mS 7 5
  ·exact mS 8 0
  ·exact lod 0 wA (loads_of strct_rat shp_r4)
  ·exact ch3 wA ((qO 0 50 rfl).imp nil_nmd) (qO 1 51 rfl) (qO 2 52 rfl) (fresh_two (fresh_is _) (fresh_is _)) (fun w u v r h hv hr => zdecide_w w u h v r hv hr)
  ·exact mO 3 53
  ·exact e20 wA (oO 4 49)
  ·exact e21 wA (oO 4 49)
  ·exact mO 5 54
  ·exact mO 6 55
 intro _ a9 _ (S9 : Sta w 152 [(3, (q322p1)), (7, (q322p0 w)), (9, (q322p0 w))] [(15, bF), (16, iV 7), (13, iV 0), (14, iV 7), (11, iV 0), (12, iV 7), (10, iV 7), (8, iV 7), (6, ZFP), (5, Is (.pointer none)), (0, Any)] _ _ _)
 refine wq [.val Any, .val R4, .val (q322p3 w), .val (q322p3 w), kF, .val (iV 7), kF, .val (iV 7)] [.inr 1, .inr 2] [.inl 6, .inl 7, .inr 0, .inr 1, .inr 2, .inr 3, .inr 4, .inr 5, .inr 6, .inr 7, .inr 8, .inr 9] S9 ?_ ?_
 ·repeat' refine And.intro ?_ ?_
  ·trivial
  ·exact mS 10 0
  ·exact lod 0 wA (loads_of strct_rat shp_r4)
  ·exact ch3 wA ((qS 8 6 rfl).imp zfp_nmd) (qO 0 57 rfl) (qO 1 58 rfl) (fresh_two (fresh_is _) (fresh_is _)) (fun w u v r h hv hr => zdecide_w w u h v r hv hr)
  ·exact mO 2 59
  ·exact e20 wA (oO 3 56)
  ·exact e21 wA (oO 3 56)
  ·exact mO 4 60
  ·exact mO 5 61
 intro _ a10 _ (S10 : Sta w 152 [(7, (q322p0 w)), (9, (q322p0 w))] [(17, bF), (18, iV 7), (15, bF), (16, iV 7), (13, iV 0), (14, iV 7), (11, iV 0), (12, iV 7), (10, iV 7), (8, iV 7), (6, ZFP), (5, Is (.pointer none))] _ _ _)
 refine wq [.val (Is (.pointer none)), .val (q322p4 w), .val (q322p4 w), .val (iV 0), .val (iV 0), .val (iV 0), .val (iV 0)] [.inr 0, .inr 1] [.inl 5, .inl 6, .inr 0, .inr 1, .inr 2, .inr 3, .inr 4, .inr 5, .inr 6, .inr 7, .inr 8, .inr 9, .inr 10, .inr 11] S10 ?_ ?_
 ·repeat' refine And.intro ?_ ?_
  ·trivial
  ·exact mS 11 5
  ·exact ch1 wA ((qO 0 63 rfl).imp nil_nmd) (fresh_two (fresh_is _) (fresh_is _)) (fun w u h => zcnt_w w u h)
  ·exact mO 1 64
  ·exact e20 wA (oO 2 62)
  ·exact e21 wA (oO 2 62)
  ·exact mO 3 65
  ·exact mO 4 66
 intro _ a11 _ (S11 : Sta w 152 [(7, (q322p0 w)), (9, (q322p0 w))] [(19, iV 0), (20, iV 0), (17, bF), (18, iV 7), (15, bF), (16, iV 7), (13, iV 0), (14, iV 7), (11, iV 0), (12, iV 7), (10, iV 7), (8, iV 7), (6, ZFP), (5, Is (.pointer none))] _ _ _)
 refine wq [.val (q322p4 w), .val (q322p4 w), .val (iV 0), .val (iV 0), .val (iV 0), .val (iV 0)] [.inr 0, .inr 1] [.inl 4, .inl 5, .inr 0, .inr 1, .inr 2, .inr 3, .inr 4, .inr 5, .inr 6, .inr 7, .inr 8, .inr 9, .inr 10, .inr 11, .inr 12, .inr 13] S11 ?_ ?_
 ·apply jj6
  ·exact ch1 wA ((qS 12 6 rfl).imp zfp_nmd) (fresh_two (fresh_is _) (fresh_is _)) (fun w u h => zcnt_w w u h)
  ·exact mO 0 68
  ·exact e20 wA (oO 1 67)
  ·exact e21 wA (oO 1 67)
  ·exact mO 2 69
  ·exact mO 3 70
 intro _ a12 _ (S12 : Sta w 152 [(7, (q322p0 w)), (9, (q322p0 w))] [(21, iV 0), (22, iV 0), (19, iV 0), (20, iV 0), (17, bF), (18, iV 7), (15, bF), (16, iV 7), (13, iV 0), (14, iV 7), (11, iV 0), (12, iV 7), (10, iV 7), (8, iV 7), (6, ZFP), (5, Is (.pointer none))] _ _ _)
 refine wp_seq ?_
 refine wq [.val (iV 7), kF, kF, .val (iV 7), kF, kF, kF, .val (iV 7), kF, kF, kF, .val (iV 7), kF, kF, kF, .val (iV 7), kF, kF, kF, .val (iV 7), kF, kF] [.inr 0, .inr 1] [.inl 21, .inr 0, .inr 1, .inr 2, .inr 3, .inr 4, .inr 6, .inr 8, .inr 10, .inr 14, .inr 15] S12 ?_ ?_
 ·repeat' refine And.intro ?_ ?_
  ·trivial
  ·exact mS 13 8
  ·exact b_neq_errno_f wA (oO 0 71) (opnd_const _) (h := by decide)
  ·exact mO 1 72
  ·exact mW (wI 2 73) (oS 12 10)
  ·exact b_neq_errno_f (wI 2 73) (oO 3 74) (opnd_const _) (h := by decide)
  ·exact pF wA (oO 2 73) (oO 4 75)
  ·exact mO 5 76
  ·exact mW (wI 6 77) (oS 11 12)
  ·exact b_neq_errno_f (wI 6 77) (oO 7 78) (opnd_const _) (h := by decide)
  ·exact pF wA (oO 6 77) (oO 8 79)
  ·exact mO 9 80
  ·exact mW (wI 10 81) (oS 9 14)
  ·exact b_neq_errno_f (wI 10 81) (oO 11 82) (opnd_const _) (h := by decide)
  ·exact pF wA (oO 10 81) (oO 12 83)
  ·exact mO 13 84
  ·exact mW (wI 14 85) (oS 7 16)
  ·exact b_neq_errno_f (wI 14 85) (oO 15 86) (opnd_const _) (h := by decide)
  ·exact pF wA (oO 14 85) (oO 16 87)
  ·exact mO 17 88
  ·exact mW (wI 18 89) (oS 5 18)
  ·exact b_neq_errno_f (wI 18 89) (oO 19 90) (opnd_const _) (h := by decide)
  ·exact pF wA (oO 18 89) (oO 20 91)
 intro _ a13 _ (S13 : Sta w 152 [(7, (q322p0 w)), (9, (q322p0 w))] [(92, bF), (21, iV 0), (22, iV 0), (19, iV 0), (20, iV 0), (17, bF), (15, bF), (13, iV 0), (11, iV 0), (6, ZFP), (5, Is (.pointer none))] _ _ _)
 refine wp_cond_false (S13.bool 0 92 rfl) (wp_skip (thenN ?_))
 refine wq [.val (Part a13 7 0), .val (Is (.float .f64 0)), kT, kT, .val (Part a13 7 1), .val (Is (.float .f64 0)), kT, kT, kT, .val (Part a13 9 0), .val (Is (.float .f64 0)), kT, kT, kT, .val (Part a13 9 1), .val (Is (.float .f64 0)), kT, kT, kT, .val (iV 0), kT, kT, kT, .val (iV 0), kT, kT, kT, kF, kT, kT, kT, kF, kT, kT, kT, .val (iV 0), kT, kT, kT, .val (iV 0), kT, kT, kT, .val (iV 0), kT, kT, kT, .val (iV 0), kT, kT, kT, .val (Is (.pointer none)), .val (iV 7), kT, kT, kT, .val (iV 7), kT, kT, kT] [.inr 0, .inr 1] [.inl 59] S13 ?_ ?_
 ·repeat' refine And.intro ?_ ?_
  ·trivial
  ·exact owe_part rfl wA rfl (k := 0) rfl (by kernel_rfl) rfl (fun ρ w b h => part_ival0 ρ _ _ w b 0 h)
  ·exact owe_pload rfl wA rfl (oO 0 93) (k := 0) rfl (by kernel_rfl) rfl (fun ρ w b u h1 h2 h3 => ploadI rfl load1_f64 ρ _ _ w b u h1 h2 h3)
  ·exact ch2 wA (qO 1 94 rfl) (opnd_const _) (fresh_is _) (fun w u0 u1 h0 h1 => by obtain rfl : u0 = _ := h0.now; obtain rfl : u1 = _ := h1.now; exact ends_0 w)
  ·exact mO 2 95
  ·exact owe_part rfl (wI 3 96) rfl (k := 0) rfl (by kernel_rfl) rfl (fun ρ w b h => part_ival1 ρ _ _ w b 0 h)
  ·exact owe_pload rfl (wI 3 96) rfl (oO 4 97) (k := 0) rfl (by kernel_rfl) rfl (fun ρ w b u h1 h2 h3 => ploadI rfl load1_f64 ρ _ _ w b u h1 h2 h3)
  ·exact ch2 (wI 3 96) (qO 5 98 rfl) (opnd_const _) (fresh_is _) (fun w u0 u1 h0 h1 => by obtain rfl : u0 = _ := h0.now; obtain rfl : u1 = _ := h1.now; exact ends_0 w)
  ·exact pT wA (oO 3 96) (oO 6 99)
  ·exact mO 7 100
  ·exact owe_part rfl (wI 8 101) rfl (k := 1) rfl (by kernel_rfl) rfl (fun ρ w b h => part_ival0 ρ _ _ w b 0 h)
  ·exact owe_pload rfl (wI 8 101) rfl (oO 9 102) (k := 1) rfl (by kernel_rfl) rfl (fun ρ w b u h1 h2 h3 => ploadI rfl load1_f64 ρ _ _ w b u h1 h2 h3)
  ·exact ch2 (wI 8 101) (qO 10 103 rfl) (opnd_const _) (fresh_is _) (fun w u0 u1 h0 h1 => by obtain rfl : u0 = _ := h0.now; obtain rfl : u1 = _ := h1.now; exact ends_0 w)
  ·exact pT wA (oO 8 101) (oO 11 104)
  ·exact mO 12 105
  ·exact owe_part rfl (wI 13 106) rfl (k := 1) rfl (by kernel_rfl) rfl (fun ρ w b h => part_ival1 ρ _ _ w b 0 h)
  ·exact owe_pload rfl (wI 13 106) rfl (oO 14 107) (k := 1) rfl (by kernel_rfl) rfl (fun ρ w b u h1 h2 h3 => ploadI rfl load1_f64 ρ _ _ w b u h1 h2 h3)
  ·exact ch2 (wI 13 106) (qO 15 108 rfl) (opnd_const _) (fresh_is _) (fun w u0 u1 h0 h1 => by obtain rfl : u0 = _ := h0.now; obtain rfl : u1 = _ := h1.now; exact ends_0 w)
  ·exact pT wA (oO 13 106) (oO 16 109)
  ·exact mO 17 110
  ·exact mW (wI 18 111) (oS 8 11)
  ·exact b_eql_int_t (wI 18 111) (oO 19 112) (opnd_const _) (h := by decide)
  ·exact pT wA (oO 18 111) (oO 20 113)
  ·exact mO 21 114
  ·exact mW (wI 22 115) (oS 7 13)
  ·exact b_eql_int_t (wI 22 115) (oO 23 116) (opnd_const _) (h := by decide)
  ·exact pT wA (oO 22 115) (oO 24 117)
  ·exact mO 25 118
  ·exact mW (wI 26 119) (oS 6 15)
  ·exact b_not (wI 26 119) (oO 27 120)
  ·exact pT wA (oO 26 119) (oO 28 121)
  ·exact mO 29 122
  ·exact mW (wI 30 123) (oS 5 17)
  ·exact b_not (wI 30 123) (oO 31 124)
  ·exact pT wA (oO 30 123) (oO 32 125)
  ·exact mO 33 126
  ·exact mW (wI 34 127) (oS 3 19)
  ·exact b_eql_int_t (wI 34 127) (oO 35 128) (opnd_const _) (h := by decide)
  ·exact pT wA (oO 34 127) (oO 36 129)
  ·exact mO 37 130
  ·exact mW (wI 38 131) (oS 4 20)
  ·exact b_eql_int_t (wI 38 131) (oO 39 132) (opnd_const _) (h := by decide)
  ·exact pT wA (oO 38 131) (oO 40 133)
  ·exact mO 41 134
  ·exact mW (wI 42 135) (oS 1 21)
  ·exact b_eql_int_t (wI 42 135) (oO 43 136) (opnd_const _) (h := by decide)
  ·exact pT wA (oO 42 135) (oO 44 137)
  ·exact mO 45 138
  ·exact mW (wI 46 139) (oS 2 22)
  ·exact b_eql_int_t (wI 46 139) (oO 47 140) (opnd_const _) (h := by decide)
  ·exact pT wA (oO 46 139) (oO 48 141)
  ·exact mO 49 142
  ·exact mW (wI 50 143) (oS 10 5)
  ·exact ch1 (wI 50 143) ((qO 51 144 rfl).imp nil_nmd) (fresh_is _) (fun w u h => zres_w w u h)
  ·exact b_eql_errno_t (wI 50 143) (oO 52 145) (opnd_const _) (h := by decide)
  ·exact pT wA (oO 50 143) (oO 53 146)
  ·exact mO 54 147
  ·exact ch1 (wI 55 148) ((qS 9 6 rfl).imp zfp_nmd) (fresh_is _) (fun w u h => zres_w w u h)
  ·exact b_eql_errno_t (wI 55 148) (oO 56 149) (opnd_const _) (h := by decide)
  ·exact pT wA (oO 55 148) (oO 57 150)
  ·exact mO 58 151
 intro _ a14 _ (S14 : Sta w 152 [(7, (q322p0 w)), (9, (q322p0 w))] [(4, bT)] _ _ _)
 refine wp_ret ?_
 exact end_one S14 rfl (res_tmp S14 0 4 rfl)


theorem filterzero_walk (w : World) (a0 : Option Addr) (n0 c0 : Nat) (es0 : List El) (sg1 : Bool) (a1 : Option Addr) (n1 c1 : Nat) (xs1 : List Nat) (tg1 : Bool) (bb1 : Option Addr) (m1 dd1 : Nat) (ys1 : List Nat) :
  Calls Tryz.prog 3 #[.slice a0 n0 c0, .agg #[.bool sg1, .slice a1 n1 c1, .bool tg1, .slice bb1 m1 dd1]] w fun e w' => e = .returned (.bool true) ∧ Below w.heap.size w w' := by
 refine (fz_w w _ _ (fun _ _ => trivial) (fun _ _ => ⟨_, rfl, rfl, by simp [Value.oneCell']⟩)).mono ?_
 rintro e w' ⟨v, rfl, hb, hv⟩
 obtain rfl : v = _ := hv
 exact ⟨rfl, hb⟩
end Go.Proofs.YtpfdkplmjhablaaGreatDoor
