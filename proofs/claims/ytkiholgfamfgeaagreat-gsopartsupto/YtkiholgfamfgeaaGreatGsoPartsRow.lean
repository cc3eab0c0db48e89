/-
  For all data and places, where the data hold at most 1048576 values in all, Mu and Star tell what the document says, or its error.
-/
import Derived.Test.YtkiholgfamfgeaaGreatRows
import Derived.Test.YtkiholgfamfgeaaGreatGArgs
import Derived.Test.YtkiholgfamfgeaaGreatSetA
import Derived.Test.YtkiholgfamfgeaaGreatGsD
import Derived.WalkKit
import Derived.ProofKit
import Derived.OpenShut
import Derived.ShutString
import Derived.ChangeOld
import Derived.Below
import Derived.Deep.DeepHandedRow
import Derived.Lib.LaidTab
namespace Go.Proofs.YtkiholgfamfgeaaGreat.gsoPartsUpto
open Go.ChangeShapes Go.WideShapes Go.ChangeAt Go.RowKit
open Go.ChangeMaps (open_string shut_string)
set_option linter.unusedVariables false
set_option maxRecDepth 20000
set_option linter.unusedSimpArgs false

theorem own : ownKnob Tryz.prog.godebug = none := by kernel_rfl
theorem laidOut : laidOutB Tryz.prog = true := by kernel_rfl

theorem bulk_one {H : Type} (d : DataW H) : 1 ≤ Rows.uptoBulk d := by
  cases d with
  | lit l => cases l <;> simp [Rows.uptoBulk]
  | nil => simp [Rows.uptoBulk]
  | ptr d => simp [Rows.uptoBulk]
  | slice elems spare => simp [Rows.uptoBulk]
  | agg parts => simp [Rows.uptoBulk]
  | iface t d => simp [Rows.uptoBulk]
  | map entries => simp [Rows.uptoBulk]
  | held h => simp [Rows.uptoBulk]
theorem bulk_length {H : Type} (l : List (DataW H)) : l.length ≤ Rows.uptoBulkAll l := by
  induction l with
  | nil => simp [Rows.uptoBulkAll]
  | cons x r ih => have := bulk_one x; simp only [Rows.uptoBulkAll, List.length_cons]; omega
theorem bulk_reads {H : Type} {d : DataW H} {c : Nat} (h : Reads d c) : c ≤ Rows.uptoBulk d := by
  rcases h with ⟨rfl, rfl⟩ | ⟨es, sp, rfl, rfl⟩
  · omega
  · have h1 := bulk_length es
    have h2 := bulk_length sp
    simp only [Rows.uptoBulk]
    omega

theorem bulk_mem {H : Type} {d : DataW H} {l : List (DataW H)} (h : d ∈ l) : Rows.uptoBulk d ≤ Rows.uptoBulkAll l := by
  induction l with
  | nil => cases h
  | cons x r ih =>
    simp only [Rows.uptoBulkAll]
    rcases List.mem_cons.1 h with rfl | h
    · omega
    · have := ih h; omega
theorem bulk_list {H : Type} {d : DataW H} {c : Nat} {es : List El} (h : ReadsL d c es) : c ≤ Rows.uptoBulk d ∧ ∀ (i : Nat) (e : El), es[i]? = some e → e.c ≤ Rows.uptoBulk d ∨ c = 0 := by
  rcases h with ⟨rfl, rfl⟩ | ⟨ds, sp, rfl, rfl, hall⟩
  · exact ⟨by omega, fun _ _ _ => Or.inr rfl⟩
  · have h1 := bulk_length ds
    have h2 := bulk_length sp
    refine ⟨by simp only [Rows.uptoBulk]; omega, fun i e he => Or.inl ?_⟩
    obtain ⟨d1, hm, hr⟩ := hall i e he
    have h3 := bulk_mem (List.mem_of_getElem? hm)
    have h4 := bulk_reads hr
    simp only [Rows.uptoBulk, Rows.uptoBulkAll] at h3 ⊢
    omega

theorem bulk_rows {H : Type} {d : DataW H} {c : Nat} {rs : List Rw} (h : ReadsM d c rs) : c ≤ Rows.uptoBulk d ∧ ∀ (i : Nat) (r : Rw), rs[i]? = some r → c ≠ 0 → r.c ≤ Rows.uptoBulk d ∧ ∀ (j : Nat) (e : El), r.es[j]? = some e → e.c ≤ Rows.uptoBulk d ∨ r.c = 0 := by
  rcases h with ⟨rfl, rfl⟩ | ⟨ds, sp, rfl, rfl, hall⟩
  · exact ⟨by omega, fun _ _ _ h => absurd rfl h⟩
  · have h1 := bulk_length ds
    have h2 := bulk_length sp
    refine ⟨by simp only [Rows.uptoBulk]; omega, fun i r hr _ => ?_⟩
    obtain ⟨d1, hm, hl⟩ := hall i r hr
    have h3 := bulk_mem (List.mem_of_getElem? hm)
    obtain ⟨h4, h5⟩ := bulk_list hl
    simp only [Rows.uptoBulk]
    refine ⟨by omega, fun j e he => ?_⟩
    rcases h5 j e he with h | h
    · exact Or.inl (by omega)
    · exact Or.inr h

theorem contract (H : Type) (enc : TypeId × Value → H) (W : World) (base : Nat) (args : Array Value) (ds gs : List (DataW H)) (before : List MemPlace)
    (hval0 : ∀ (j : Nat) t v, Tryz.f3.params[j]? = some t → args[j]? = some v → Value.okWide Tryz.prog W .any base t v)
    (hW : DataW.Whole enc Tryz.prog Tryz.f3.params.toList Rows.gsoPartsSpec.vars false W args.toList ds gs before)
    (ts : List TypeId) (ht0 : ts[0]? = some 25) (ht1 : ts[1]? = some 3) (ht2 : ts[2]? = some 3)
    (hsz : (DataW.weightsEach Tryz.prog ts (ds ++ gs)).all (· ≤ reachBytes) = true) (hk : Rows.uptoSmall H (ds ++ gs) = true) :
    Calls Tryz.prog 3 args W fun e W' => ∃ v, e = .returned v ∧ Rows.gsoPartsSpec.post enc Tryz.prog Tryz.f3 false true false false W args v W' := by
  have hval : ∀ (j : Nat) t v, Tryz.f3.params[j]? = some t → args[j]? = some v → Value.okWide Tryz.prog W .any base t v := hval0
  have hW' := hW
  obtain ⟨p, q, hA0, hV, rfl, hfz, hnd⟩ := hW
  have hA : DataW.TrodAll enc Tryz.prog W 0 (fun _ => true) true Tryz.f3.params.toList args.toList ds p := hA0
  rw [Tryz.params3] at hA hval
  obtain ⟨v0, vs0, d0, ds0, pl0, q0, hargs, rfl, rfl, h0, r0⟩ := trodAll_cons hA
  obtain ⟨v1, vs1, d1, ds1, pl1, q1, rfl, rfl, rfl, h1, r1⟩ := trodAll_cons r0
  obtain ⟨v2, vs2, d2, ds2, pl2, q2, rfl, rfl, rfl, h2, r2⟩ := trodAll_cons r1
  obtain ⟨rfl, rfl, rfl⟩ := trodAll_nil r2
  obtain rfl : args = #[v0, v1, v2] := by cases args; simp_all
  obtain ⟨rfl, rfl⟩ := trodVars_none hV
  have k0 := h0
  have lt0 : ∀ x ∈ pl0, x.block < W.heap.size := by obtain ⟨m, hm⟩ := k0; exact DataW.trod_lt m _ _ _ hm
  obtain ⟨a0, n0, c0, es0, bb0, m0, dd0, rs0, da0, db0, rfl, s0, z0, rfl, e0, f0⟩ := arg_gso (hval 0 25 v0 rfl rfl) h0
  obtain ⟨x1, rfl, rfl, rfl, wx1⟩ := open_int Tryz.underlying3 (hval 1 3 v1 rfl rfl) h1
  have b1 := bounds_i64 wx1
  obtain ⟨x2, rfl, rfl, rfl, wx2⟩ := open_int Tryz.underlying3 (hval 2 3 v2 rfl rfl) h2
  have b2 := bounds_i64 wx2
  have hbulk := of_decide_eq_true hk
  simp only [List.append_nil, Rows.uptoBulkAll] at hbulk
  have hb0 : Rows.uptoBulk da0 ≤ 1048576 ∧ Rows.uptoBulk db0 ≤ 1048576 := by simp only [Rows.uptoBulk, Rows.uptoBulkAll] at hbulk; omega
  have u0 : c0 ≤ 1048576 := by have := (bulk_list e0).1; omega
  have uu0 : ∀ (i : Nat) (e : El), es0[i]? = some e → e.c ≤ 1048576 := fun i e he => by
    rcases (bulk_list e0).2 i e he with h | h
    · omega
    · have h5 := s0.len; have h6 := s0.cap; have := (List.getElem?_eq_some_iff.1 he).1; omega
  have y0 : dd0 ≤ 1048576 := by have := (bulk_rows f0).1; omega
  have yy0 : ∀ (i : Nat) (r : Rw), rs0[i]? = some r → r.c ≤ 1048576 ∧ ∀ (j : Nat) (e : El), r.es[j]? = some e → e.c ≤ 1048576 := fun i r hr => by
    have h5 := z0.len
    have h6 := z0.cap
    have h7 := (List.getElem?_eq_some_iff.1 hr).1
    obtain ⟨q1, q2⟩ := (bulk_rows f0).2 i r hr (by omega)
    refine ⟨by omega, fun j e he => ?_⟩
    rcases q2 j e he with h | h
    · omega
    · obtain ⟨b, o, _, _, L⟩ := z0.lie i r hr
      have := L.cap
      have := L.len
      have := (List.getElem?_eq_some_iff.1 he).1
      omega
  clear hA0 hval0 hval
  refine (gsoparts_walk W a0 n0 c0 es0 bb0 m0 dd0 rs0 x1 x2 s0 z0 u0 uu0 y0 yy0 b1 b2).mono fun e W' ⟨he, bel⟩ => ?_
  subst he
  exact ⟨_, rfl, _, _, _, [], _, [], hW', trodAll_mk1 (shut_bool Tryz.underlying4 _), (trodAll_cons_mk (Below.trod laidOut (by kernel_rfl) (of_decide_eq_true (by kernel_rfl)) k0 bel lt0) (trodAll_cons_mk (shut_int Tryz.underlying3 wx1) (trodAll_cons_mk (shut_int Tryz.underlying3 wx2) (trodAll_mk0)))), rfl, bel.frame _, fun h => by cases h⟩

noncomputable def laidWorld (os : Os) : World := World.holding Tryz.prog os ⟨#[], #[], []⟩
theorem laid_met (os : Os) : laidMet Tryz.prog Rows.gsoPartsUptoRow.laid ((laidWorld os).forCall (fun _ _ => 0) ⟨#[], #[Value.agg #[Value.slice none 0 0, Value.slice none 0 0], .int .i64 0, .int .i64 0], []⟩).memory :=
  laidMet_of_run' 8 (by kernel_rfl) (by kernel_rfl)
theorem reads (os : Os) {H : Type} (enc : TypeId × Value → H) : ∃ places, DataW.whole enc Tryz.prog ((laidWorld os).forCall (fun _ _ => 0) ⟨#[], #[Value.agg #[Value.slice none 0 0, Value.slice none 0 0], .int .i64 0, .int .i64 0], []⟩).memory Tryz.f3.params.toList Rows.gsoPartsSpec.vars false (#[Value.agg #[Value.slice none 0 0, Value.slice none 0 0], .int .i64 0, .int .i64 0] : Array Value).toList 8 = some ([.agg [.nil, .nil], .lit (.int .i64 0), .lit (.int .i64 0)], [], places) :=
  ⟨[], by kernel_rfl⟩

set_option maxRecDepth 100000 in
theorem lifted (os : Os) (started : os.Started) (H : Type) (enc : TypeId × Value → H) (F : Stop.Interp) :
    ReturnsInHanded {} Tryz.checked os 3 .any ((Rows.OpenSpec.upto Rows.gsoPartsSpec).preRow enc Tryz.prog Tryz.f3 Rows.gsoPartsUptoRow.domain false Rows.gsoPartsUptoRow.laid) (((Rows.OpenSpec.upto Rows.gsoPartsSpec).at F).post enc Tryz.prog Tryz.f3 false true false false) := by
  obtain ⟨places, hx⟩ := reads os enc
  refine returnsInHanded_of_row (C := Tryz.checked) (s := Rows.OpenSpec.upto Rows.gsoPartsSpec) own started (by kernel_rfl) Tryz.func3
    (witness_row_at (enc := enc) (C := Tryz.checked) false (laidWorld os) #[Value.agg #[Value.slice none 0 0, Value.slice none 0 0], .int .i64 0, .int .i64 0] rfl (by kernel_rfl) (by kernel_rfl) (by kernel_rfl)
      (OpenSpec.preRow_of_cond 8 hx (by kernel_rfl) (fun k hk => by cases hk; kernel_rfl) (by kernel_rfl) (laid_met os))) ?_
  intro W base args ds gs before hval hW _ hcond hsz hL _ _
  exact contract H enc W base args ds gs before hval hW _ (by kernel_rfl) (by kernel_rfl) (by kernel_rfl) hsz (hcond _ rfl)

theorem said : Rows.GsoPartsUptoSaid :=
  OpenClaim.holds_of_cond 3 Tryz.f3 rfl rfl rfl rfl rfl rfl rfl ⟨rfl, rfl, rfl, rfl, rfl⟩ rfl rfl rfl rfl rfl (by kernel_rfl) Tryz.func3 (by kernel_rfl)
    (of_decide_eq_true (by kernel_rfl)) (by unfold Func.isWrapper; first | (rw [if_pos (by decide +kernel)]; kernel_rfl) | (rw [if_neg (by decide +kernel)]; exact ⟨rfl, rfl⟩))
    (fun os started H enc _ F => by rw [OpenClaim.pre_eq_preRow]; exact lifted os started H enc F)

end Go.Proofs.YtkiholgfamfgeaaGreat.gsoPartsUpto
