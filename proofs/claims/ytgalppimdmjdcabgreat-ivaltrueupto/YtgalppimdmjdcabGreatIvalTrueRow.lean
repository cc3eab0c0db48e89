/-
  IvalTrue answers true and leaves its arguments as they are, where they hold at most 1048576 values together.
-/
import Derived.Test.YtgalppimdmjdcabGreatRows
import Derived.Test.YtgalppimdmjdcabGreatSetL
import Derived.Test.YtgalppimdmjdcabGreatFArgs
import Derived.Test.YtgalppimdmjdcabGreatSetA
import Derived.Test.YtgalppimdmjdcabGreatItA
import Derived.WalkKit
import Derived.ProofKit
import Derived.OpenShut
import Derived.ShutString
import Derived.ChangeOld
import Derived.Below
import Derived.Deep.DeepHandedRow
import Derived.Lib.LaidTab
namespace Go.Proofs.YtgalppimdmjdcabGreat.ivalTrueUpto
open Go.ChangeShapes Go.WideShapes Go.ChangeAt Go.RowKit
open Go.ChangeMaps (open_string shut_string)
set_option linter.unusedVariables false
set_option maxRecDepth 20000
set_option linter.unusedSimpArgs false

theorem own : ownKnob Tryz.prog.godebug = none := by kernel_rfl
theorem laidOut : laidOutB Tryz.prog = true := by kernel_rfl

theorem bulk_one {H : Type} (d : DataW H) : 1 ≤ Rows.uptoBulk d := by
  cases d with
  | lit l => cases l <;> simp [Rows.uptoBulk]
  | nil => simp [Rows.uptoBulk]
  | ptr d => simp [Rows.uptoBulk]
  | slice elems spare => simp [Rows.uptoBulk]
  | agg parts => simp [Rows.uptoBulk]
  | iface t d => simp [Rows.uptoBulk]
  | map entries => simp [Rows.uptoBulk]
  | held h => simp [Rows.uptoBulk]
theorem bulk_length {H : Type} (l : List (DataW H)) : l.length ≤ Rows.uptoBulkAll l := by
  induction l with
  | nil => simp [Rows.uptoBulkAll]
  | cons x r ih => have := bulk_one x; simp only [Rows.uptoBulkAll, List.length_cons]; omega
theorem bulk_reads {H : Type} {d : DataW H} {c : Nat} (h : Reads d c) : c ≤ Rows.uptoBulk d := by
  rcases h with ⟨rfl, rfl⟩ | ⟨es, sp, rfl, rfl⟩
  · omega
  · have h1 := bulk_length es
    have h2 := bulk_length sp
    simp only [Rows.uptoBulk]
    omega

theorem contract (H : Type) (enc : TypeId × Value → H) (W : World) (base : Nat) (args : Array Value) (ds gs : List (DataW H)) (before : List MemPlace)
    (hval0 : ∀ (j : Nat) t v, Tryz.f3.params[j]? = some t → args[j]? = some v → Value.okWide Tryz.prog W .any base t v)
    (hW : DataW.Whole enc Tryz.prog Tryz.f3.params.toList Rows.ivalTrueSpec.vars false W args.toList ds gs before)
    (ts : List TypeId) (ht0 : ts[0]? = some 24) (ht1 : ts[1]? = some 24) (ht2 : ts[2]? = some 29) (ht3 : ts[3]? = some 29)
    (hsz : (DataW.weightsEach Tryz.prog ts (ds ++ gs)).all (· ≤ reachBytes) = true) (hk : Rows.uptoSmall H (ds ++ gs) = true) :
    Calls Tryz.prog 3 args W fun e W' => ∃ v, e = .returned v ∧ Rows.ivalTrueSpec.post enc Tryz.prog Tryz.f3 false true false false W args v W' := by
  have hval : ∀ (j : Nat) t v, Tryz.f3.params[j]? = some t → args[j]? = some v → Value.okWide Tryz.prog W .any base t v := hval0
  have hW' := hW
  obtain ⟨p, q, hA0, hV, rfl, hfz, hnd⟩ := hW
  have hA : DataW.TrodAll enc Tryz.prog W 0 (fun _ => true) true Tryz.f3.params.toList args.toList ds p := hA0
  rw [Tryz.params3] at hA hval
  obtain ⟨v0, vs0, d0, ds0, pl0, q0, hargs, rfl, rfl, h0, r0⟩ := trodAll_cons hA
  obtain ⟨v1, vs1, d1, ds1, pl1, q1, rfl, rfl, rfl, h1, r1⟩ := trodAll_cons r0
  obtain ⟨v2, vs2, d2, ds2, pl2, q2, rfl, rfl, rfl, h2, r2⟩ := trodAll_cons r1
  obtain ⟨v3, vs3, d3, ds3, pl3, q3, rfl, rfl, rfl, h3, r3⟩ := trodAll_cons r2
  obtain ⟨rfl, rfl, rfl⟩ := trodAll_nil r3
  obtain rfl : args = #[v0, v1, v2, v3] := by cases args; simp_all
  obtain ⟨rfl, rfl⟩ := trodVars_none hV
  have k0 := h0
  have lt0 : ∀ x ∈ pl0, x.block < W.heap.size := by obtain ⟨m, hm⟩ := k0; exact DataW.trod_lt m _ _ _ hm
  obtain ⟨x0, y0, rfl, b0, bb0, rfl⟩ := arg_ival (hval 0 24 v0 rfl rfl) h0
  have k1 := h1
  have lt1 : ∀ x ∈ pl1, x.block < W.heap.size := by obtain ⟨m, hm⟩ := k1; exact DataW.trod_lt m _ _ _ hm
  obtain ⟨x1, y1, rfl, b1, bb1, rfl⟩ := arg_ival (hval 1 24 v1 rfl rfl) h1
  have k2 := h2
  have lt2 : ∀ x ∈ pl2, x.block < W.heap.size := by obtain ⟨m, hm⟩ := k2; exact DataW.trod_lt m _ _ _ hm
  obtain ⟨sg2, a2, n2, c2, xs2, tg2, bb2, m2, dd2, ys2, da2, db2, rfl, s2, z2, rfl, e2, f2⟩ := arg_rat (hval 2 29 v2 rfl rfl) h2
  have k3 := h3
  have lt3 : ∀ x ∈ pl3, x.block < W.heap.size := by obtain ⟨m, hm⟩ := k3; exact DataW.trod_lt m _ _ _ hm
  obtain ⟨sg3, a3, n3, c3, xs3, tg3, bb3, m3, dd3, ys3, da3, db3, rfl, s3, z3, rfl, e3, f3⟩ := arg_rat (hval 3 29 v3 rfl rfl) h3
  have hbulk := of_decide_eq_true hk
  simp only [List.append_nil, Rows.uptoBulkAll] at hbulk
  have u2 : c2 ≤ 1048576 := by have := bulk_reads e2; simp only [Rows.uptoBulk, Rows.uptoBulkAll] at hbulk; omega
  have uu2 : dd2 ≤ 1048576 := by have := bulk_reads f2; simp only [Rows.uptoBulk, Rows.uptoBulkAll] at hbulk; omega
  have u3 : c3 ≤ 1048576 := by have := bulk_reads e3; simp only [Rows.uptoBulk, Rows.uptoBulkAll] at hbulk; omega
  have uu3 : dd3 ≤ 1048576 := by have := bulk_reads f3; simp only [Rows.uptoBulk, Rows.uptoBulkAll] at hbulk; omega
  clear hA0 hval0 hval
  refine (ivaltrue_walk W x0 y0 x1 y1 sg2 a2 n2 c2 xs2 tg2 bb2 m2 dd2 ys2 sg3 a3 n3 c3 xs3 tg3 bb3 m3 dd3 ys3 s2 z2 s3 z3 b0 bb0 b1 bb1 u2 uu2 u3 uu3).mono fun e W' ⟨he, bel⟩ => ?_
  subst he
  exact ⟨_, rfl, _, _, _, [], _, [], hW', trodAll_mk1 (shut_bool Tryz.underlying4 _), (trodAll_cons_mk (Below.trod laidOut (by kernel_rfl) (of_decide_eq_true (by kernel_rfl)) k0 bel lt0) (trodAll_cons_mk (Below.trod laidOut (by kernel_rfl) (of_decide_eq_true (by kernel_rfl)) k1 bel lt1) (trodAll_cons_mk (Below.trod laidOut (by kernel_rfl) (of_decide_eq_true (by kernel_rfl)) k2 bel lt2) (trodAll_cons_mk (Below.trod laidOut (by kernel_rfl) (of_decide_eq_true (by kernel_rfl)) k3 bel lt3) (trodAll_mk0))))), rfl, bel.frame _, fun h => by cases h⟩

noncomputable def laidWorld (os : Os) : World := World.holding Tryz.prog os ⟨#[], #[], []⟩
theorem laid_met (os : Os) : laidMet Tryz.prog Rows.ivalTrueUptoRow.laid ((laidWorld os).forCall (fun _ _ => 0) ⟨#[], #[Value.agg #[Value.float .f64 0, Value.float .f64 0], Value.agg #[Value.float .f64 0, Value.float .f64 0], Value.agg #[Value.bool false, Value.slice none 0 0, Value.bool false, Value.slice none 0 0], Value.agg #[Value.bool false, Value.slice none 0 0, Value.bool false, Value.slice none 0 0]], []⟩).memory :=
  laidMet_of_run' 8 (by kernel_rfl) (by kernel_rfl)
theorem reads (os : Os) {H : Type} (enc : TypeId × Value → H) : ∃ places, DataW.whole enc Tryz.prog ((laidWorld os).forCall (fun _ _ => 0) ⟨#[], #[Value.agg #[Value.float .f64 0, Value.float .f64 0], Value.agg #[Value.float .f64 0, Value.float .f64 0], Value.agg #[Value.bool false, Value.slice none 0 0, Value.bool false, Value.slice none 0 0], Value.agg #[Value.bool false, Value.slice none 0 0, Value.bool false, Value.slice none 0 0]], []⟩).memory Tryz.f3.params.toList Rows.ivalTrueSpec.vars false (#[Value.agg #[Value.float .f64 0, Value.float .f64 0], Value.agg #[Value.float .f64 0, Value.float .f64 0], Value.agg #[Value.bool false, Value.slice none 0 0, Value.bool false, Value.slice none 0 0], Value.agg #[Value.bool false, Value.slice none 0 0, Value.bool false, Value.slice none 0 0]] : Array Value).toList 8 = some ([.agg [.lit (.float .f64 0), .lit (.float .f64 0)], .agg [.lit (.float .f64 0), .lit (.float .f64 0)], .agg [.agg [.lit (.bool false), .nil], .agg [.lit (.bool false), .nil]], .agg [.agg [.lit (.bool false), .nil], .agg [.lit (.bool false), .nil]]], [], places) :=
  ⟨[], by kernel_rfl⟩

set_option maxRecDepth 100000 in
theorem lifted (os : Os) (started : os.Started) (H : Type) (enc : TypeId × Value → H) (F : Stop.Interp) :
    ReturnsInHanded {} Tryz.checked os 3 .any ((Rows.OpenSpec.upto Rows.ivalTrueSpec).preRow enc Tryz.prog Tryz.f3 Rows.ivalTrueUptoRow.domain false Rows.ivalTrueUptoRow.laid) (((Rows.OpenSpec.upto Rows.ivalTrueSpec).at F).post enc Tryz.prog Tryz.f3 false true false false) := by
  obtain ⟨places, hx⟩ := reads os enc
  refine returnsInHanded_of_row (C := Tryz.checked) (s := Rows.OpenSpec.upto Rows.ivalTrueSpec) own started (by kernel_rfl) Tryz.func3
    (witness_row_at (enc := enc) (C := Tryz.checked) false (laidWorld os) #[Value.agg #[Value.float .f64 0, Value.float .f64 0], Value.agg #[Value.float .f64 0, Value.float .f64 0], Value.agg #[Value.bool false, Value.slice none 0 0, Value.bool false, Value.slice none 0 0], Value.agg #[Value.bool false, Value.slice none 0 0, Value.bool false, Value.slice none 0 0]] rfl (by kernel_rfl) (by kernel_rfl) (by kernel_rfl)
      (OpenSpec.preRow_of_cond 8 hx (by kernel_rfl) (fun k hk => by cases hk; kernel_rfl) (by kernel_rfl) (laid_met os))) ?_
  intro W base args ds gs before hval hW _ hcond hsz hL _ _
  exact contract H enc W base args ds gs before hval hW _ (by kernel_rfl) (by kernel_rfl) (by kernel_rfl) (by kernel_rfl) hsz (hcond _ rfl)

theorem said : Rows.IvalTrueUptoSaid :=
  OpenClaim.holds_of_cond 3 Tryz.f3 rfl rfl rfl rfl rfl rfl rfl ⟨rfl, rfl, rfl, rfl, rfl⟩ rfl rfl rfl rfl rfl (by kernel_rfl) Tryz.func3 (by kernel_rfl)
    (of_decide_eq_true (by kernel_rfl)) (by unfold Func.isWrapper; first | (rw [if_pos (by decide +kernel)]; kernel_rfl) | (rw [if_neg (by decide +kernel)]; exact ⟨rfl, rfl⟩))
    (fun os started H enc _ F => by rw [OpenClaim.pre_eq_preRow]; exact lifted os started H enc F)

end Go.Proofs.YtgalppimdmjdcabGreat.ivalTrueUpto
