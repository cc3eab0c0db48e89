/-
 Each suffix has the part that its definition tells: the row, where all that comes in has at most 1048576 limbs and elements.
-/
import Derived.Test.YtdnindaohpdblaaGreatTpB
import Derived.ShutString
import Derived.ChangeOld
import Derived.Deep.DeepHandedRow
set_option linter.all false
namespace Go.Proofs.YtdnindaohpdblaaGreat.treePartsUpto
open Go.ChangeShapes Go.WideShapes Go.ChangeAt Go.RowKit
open Go.ChangeMaps (open_string shut_string)
set_option maxRecDepth 20000

theorem own : ownKnob Tryz.prog.godebug = none := by kernel_rfl
theorem laidOut : laidOutB Tryz.prog = true := by kernel_rfl

theorem yvx {H : Type} (d : DataW H) : 1 ≤ Rows.uptoBulk d := by
 cases d with
 | lit l => cases l <;> simp [Rows.uptoBulk]
 | nil => simp [Rows.uptoBulk]
 | ptr d => simp [Rows.uptoBulk]
 | slice elems spare => simp [Rows.uptoBulk]
 | agg parts => simp [Rows.uptoBulk]
 | iface t d => simp [Rows.uptoBulk]
 | map entries => simp [Rows.uptoBulk]
 | held h => simp [Rows.uptoBulk]
theorem yd5 {H : Type} (l : List (DataW H)) : l.length ≤ Rows.uptoBulkAll l := by
 induction l with
 | nil => simp [Rows.uptoBulkAll]
 | cons x r ih => have := yvx x; simp only [Rows.uptoBulkAll, zie]; omega
theorem yeo {H : Type} {d : DataW H} {c : Nat} (h : Reads d c) : c ≤ Rows.uptoBulk d := by
 rcases h with ⟨rfl, rfl⟩ | ⟨es, sp, rfl, rfl⟩
 ·omega
 ·have h1 := yd5 es
  have h2 := yd5 sp
  simp only [Rows.uptoBulk]
  omega

theorem yo3 {H : Type} {d : DataW H} {l : List (DataW H)} (h : d ∈ l) : Rows.uptoBulk d ≤ Rows.uptoBulkAll l := by
 induction l with
 | nil => cases h
 | cons x r ih =>
  simp only [Rows.uptoBulkAll]
  rcases zj3.1 h with rfl | h
  ·omega
  ·have := ih h; omega
theorem yr5 {H : Type} {d : DataW H} {c : Nat} {es : List El} (h : ReadsL d c es) : c ≤ Rows.uptoBulk d ∧ ∀ (i : Nat) (e : El), es[i]? = some e → e.c ≤ Rows.uptoBulk d ∨ c = 0 := by
 rcases h with ⟨rfl, rfl⟩ | ⟨ds, sp, rfl, rfl, hall⟩
 ·exact ⟨by omega, fun _ _ _ => Or.inr rfl⟩
 ·have h1 := yd5 ds
  have h2 := yd5 sp
  refine ⟨by simp only [Rows.uptoBulk]; omega, fun i e he => Or.inl ?_⟩
  obtain ⟨d1, hm, hr⟩ := hall i e he
  have h3 := yo3 (zhl hm)
  have h4 := yeo hr
  simp only [Rows.uptoBulk, Rows.uptoBulkAll] at h3 ⊢
  omega

theorem ymh {H : Type} {d : DataW H} {c : Nat} {rs : List Rw} (h : ReadsM d c rs) : c ≤ Rows.uptoBulk d ∧ ∀ (i : Nat) (r : Rw), rs[i]? = some r → c ≠ 0 → r.c ≤ Rows.uptoBulk d ∧ ∀ (j : Nat) (e : El), r.es[j]? = some e → e.c ≤ Rows.uptoBulk d ∨ r.c = 0 := by
 rcases h with ⟨rfl, rfl⟩ | ⟨ds, sp, rfl, rfl, hall⟩
 ·exact ⟨by omega, fun _ _ _ h => absurd rfl h⟩
 ·have h1 := yd5 ds
  have h2 := yd5 sp
  refine ⟨by simp only [Rows.uptoBulk]; omega, fun i r hr _ => ?_⟩
  obtain ⟨d1, hm, hl⟩ := hall i r hr
  have h3 := yo3 (zhl hm)
  obtain ⟨h4, h5⟩ := yr5 hl
  simp only [Rows.uptoBulk]
  refine ⟨by omega, fun j e he => ?_⟩
  rcases h5 j e he with h | h
  ·exact Or.inl (by omega)
  ·exact Or.inr h

theorem yk2 {H α : Type} (f : α → Nat) : ∀ (es : List α) (ds : List (DataW H)), (∀ (i : Nat) e, es[i]? = some e → ∃ d, ds[i]? = some d ∧ f e ≤ Rows.uptoBulk d) → (es.map f).sum ≤ Rows.uptoBulkAll ds
 | [], ds, _ => by simp
 | e :: r, [], h => by obtain ⟨d, hd, _⟩ := h 0 e rfl; simp at hd
 | e :: r, d :: ds, h => by
  obtain ⟨d', hd, h1⟩ := h 0 e rfl
  simp at hd
  subst hd
  have := yk2 f r ds (fun i x hx => by obtain ⟨y, hy, h2⟩ := h (i + 1) x (by simpa using hx); exact ⟨y, by simpa using hy, h2⟩)
  simp only [zje, zjs, Rows.uptoBulkAll]
  omega
theorem yo4 {H : Type} {d : DataW H} {c : Nat} {es : List El} (h : ReadsL d c es) (hn : es.length ≤ c) : (es.map (fun e => e.c + 1)).sum ≤ Rows.uptoBulk d := by
 rcases h with ⟨rfl, rfl⟩ | ⟨ds, sp, rfl, rfl, hall⟩
 ·have : es = [] := zib.1 (by omega)
  subst this
  simp
 ·have := yk2 (fun e : El => e.c + 1) es ds (fun i e he => by
   obtain ⟨d1, hm, hr⟩ := hall i e he
   refine ⟨_, hm, ?_⟩
   have h4 := yeo hr
   simp only [Rows.uptoBulk, Rows.uptoBulkAll]
   omega)
  simp only [Rows.uptoBulk]
  omega

theorem yr6 {H : Type} {d : DataW H} {c : Nat} {rs : List Ra} (h : ReadsQ d c rs) (hn : rs.length ≤ c) : (rs.map (fun r => r.x.c + r.y.c + 1)).sum ≤ Rows.uptoBulk d := by
 rcases h with ⟨rfl, rfl⟩ | ⟨ds, sp, rfl, rfl, hall⟩
 ·have : rs = [] := zib.1 (by omega)
  subst this
  simp
 ·have := yk2 (fun r : Ra => r.x.c + r.y.c + 1) rs ds (fun i r hr => by
   obtain ⟨d1, d2, hm, h1, h2⟩ := hall i r hr
   refine ⟨_, hm, ?_⟩
   have h4 := yeo h1
   have h5 := yeo h2
   simp only [Rows.uptoBulk, Rows.uptoBulkAll]
   omega)
  simp only [Rows.uptoBulk]
  omega

theorem contract (H : Type) (enc : TypeId × Value → H) (W : World) (base : Nat) (args : Array Value) (ds gs : List (DataW H)) (before : List MemPlace)
  (hval0 : ∀ (j : Nat) t v, Tryz.f4.params[j]? = some t → args[j]? = some v → Value.okWide Tryz.prog W .any base t v)
  (hW : DataW.Whole enc Tryz.prog Tryz.f4.params.toList Rows.treePartsSpec.vars false W args.toList ds gs before)
  (ts : List TypeId) (ht0 : ts[0]? = some 41) (ht1 : ts[1]? = some 35)
  (hsz : (DataW.weightsEach Tryz.prog ts (ds ++ gs)).all (· ≤ reachBytes) = true) (hk : Rows.uptoSmall H (ds ++ gs) = true) :
  Calls Tryz.prog 4 args W fun e W' => ∃ v, e = .returned v ∧ Rows.treePartsSpec.post enc Tryz.prog Tryz.f4 false true false false W args v W' := by
 have hval : ∀ (j : Nat) t v, Tryz.f4.params[j]? = some t → args[j]? = some v → Value.okWide Tryz.prog W .any base t v := hval0
 have hW' := hW
 obtain ⟨p, q, hA0, hV, rfl, hfz, hnd⟩ := hW
 have hA : DataW.TrodAll enc Tryz.prog W 0 (fun _ => true) true Tryz.f4.params.toList args.toList ds p := hA0
 rw [Tryz.params4] at hA hval
 obtain ⟨v0, vs0, d0, ds0, pl0, q0, hargs, rfl, rfl, h0, r0⟩ := trodAll_cons hA
 obtain ⟨v1, vs1, d1, ds1, pl1, q1, rfl, rfl, rfl, h1, r1⟩ := trodAll_cons r0
 obtain ⟨rfl, rfl, rfl⟩ := trodAll_nil r1
 obtain rfl : args = #[v0, v1] := by cases args; simp_all
 obtain ⟨rfl, rfl⟩ := trodVars_none hV
 have k0 := h0
 have lt0 : ∀ x ∈ pl0, x.block < W.heap.size := by obtain ⟨m, hm⟩ := k0; exact DataW.trod_lt m _ _ _ hm
 obtain ⟨a0, n0, c0, es0, bb0, m0, dd0, rs0, ta0, tn0, tc0, rq0, sg0, xa0, xn0, xc0, xs0, tg0, ya0, yn0, yc0, ys0, da0, db0, dt0, dx0, dy0, rfl, s0, z0, sq0, sx0, sy0, rfl, e0, f0, eq0, ex0, ey0⟩ := yvt (hval 0 41 v0 rfl rfl) h0
 have k1 := h1
 have lt1 : ∀ x ∈ pl1, x.block < W.heap.size := by obtain ⟨m, hm⟩ := k1; exact DataW.trod_lt m _ _ _ hm
 obtain ⟨a1, n1, c1, es1, rfl, s1, e1⟩ := yvs (hval 1 35 v1 rfl rfl) h1
 have hbulk := of_decide_eq_true hk
 simp only [zhz, Rows.uptoBulkAll] at hbulk
 have hb0 : Rows.uptoBulk da0 + Rows.uptoBulk db0 + Rows.uptoBulk dt0 + Rows.uptoBulk d1 + Rows.uptoBulk dx0 + Rows.uptoBulk dy0 + 3 ≤ 1048576 := by
  generalize Rows.uptoBulk d1 = b1 at *
  simp only [Rows.uptoBulk, Rows.uptoBulkAll] at hbulk
  omega
 have yy0 : ∀ (i : Nat) (r : Rw), rs0[i]? = some r → r.c ≤ Rows.uptoBulk db0 ∧ ∀ (j : Nat) (e : El), r.es[j]? = some e → e.c ≤ Rows.uptoBulk db0 := fun i r hr => by
  have h5 := z0.len
  have h6 := z0.cap
  have h7 := (zhh.1 hr).1
  obtain ⟨q1, q2⟩ := (ymh f0).2 i r hr (by omega)
  refine ⟨q1, fun j e he => ?_⟩
  rcases q2 j e he with h | h
  ·exact h
  ·obtain ⟨b, o, _, _, L⟩ := z0.lie i r hr
   have := L.cap
   have := L.len
   have := (zhh.1 he).1
   omega
 have tt0 := yo4 e0 (by have := s0.len; have := s0.cap; omega)
 have tq0 := yr6 eq0 (by have := sq0.len; have := sq0.cap; omega)
 have tt1 := yo4 e1 (by have := s1.len; have := s1.cap; omega)
 clear hA0 hval0 hval
 refine (yj2 W a0 n0 c0 es0 bb0 m0 dd0 rs0 ta0 tn0 tc0 rq0 sg0 xa0 xn0 xc0 xs0 tg0 ya0 yn0 yc0 ys0 a1 n1 c1 es1 s0 z0 sq0 sx0 sy0 s1 _ _ _ _ _ _ tt0 (ymh f0).1 yy0 tq0 tt1 (yeo ex0) (yeo ey0) hb0).mono fun e W' ⟨he, bel⟩ => ?_
 subst he
 exact ⟨_, rfl, _, _, _, [], _, [], hW', trodAll_mk1 (shut_bool Tryz.underlying4 _), (trodAll_cons_mk (Below.trod laidOut (by kernel_rfl) (of_decide_eq_true (by kernel_rfl)) k0 bel lt0) (trodAll_cons_mk (Below.trod laidOut (by kernel_rfl) (of_decide_eq_true (by kernel_rfl)) k1 bel lt1) (trodAll_mk0))), rfl, bel.frame _, fun h => by cases h⟩

noncomputable def laidWorld (os : Os) : World := World.holding Tryz.prog os ⟨#[], #[], []⟩
theorem ywi (os : Os) : laidMet Tryz.prog Rows.treePartsUptoRow.laid ((laidWorld os).forCall (fun _ _ => 0) ⟨#[], #[Value.agg #[Value.slice none 0 0, Value.slice none 0 0, Value.slice none 0 0, Value.bool false, Value.slice none 0 0, Value.bool false, Value.slice none 0 0], .slice none 0 0], []⟩).memory :=
 laidMet_of_run' 8 (by kernel_rfl) (by kernel_rfl)
theorem reads (os : Os) {H : Type} (enc : TypeId × Value → H) : ∃ places, DataW.whole enc Tryz.prog ((laidWorld os).forCall (fun _ _ => 0) ⟨#[], #[Value.agg #[Value.slice none 0 0, Value.slice none 0 0, Value.slice none 0 0, Value.bool false, Value.slice none 0 0, Value.bool false, Value.slice none 0 0], .slice none 0 0], []⟩).memory Tryz.f4.params.toList Rows.treePartsSpec.vars false (#[Value.agg #[Value.slice none 0 0, Value.slice none 0 0, Value.slice none 0 0, Value.bool false, Value.slice none 0 0, Value.bool false, Value.slice none 0 0], .slice none 0 0] : Array Value).toList 8 = some ([.agg [.agg [.nil, .nil], .nil, .agg [.agg [.lit (.bool false), .nil], .agg [.lit (.bool false), .nil]]], .nil], [], places) :=
 ⟨[], by kernel_rfl⟩

set_option maxRecDepth 100000 in
theorem lifted (os : Os) (started : os.Started) (H : Type) (enc : TypeId × Value → H) (F : Stop.Interp) :
  ReturnsInHanded {} Tryz.checked os 4 .any ((Rows.OpenSpec.upto Rows.treePartsSpec).preRow enc Tryz.prog Tryz.f4 Rows.treePartsUptoRow.domain false Rows.treePartsUptoRow.laid) (((Rows.OpenSpec.upto Rows.treePartsSpec).at F).post enc Tryz.prog Tryz.f4 false true false false) := by
 obtain ⟨places, hx⟩ := reads os enc
 refine returnsInHanded_of_row (C := Tryz.checked) (s := Rows.OpenSpec.upto Rows.treePartsSpec) own started (by kernel_rfl) Tryz.func4
  (witness_row_at (enc := enc) (C := Tryz.checked) false (laidWorld os) #[Value.agg #[Value.slice none 0 0, Value.slice none 0 0, Value.slice none 0 0, Value.bool false, Value.slice none 0 0, Value.bool false, Value.slice none 0 0], .slice none 0 0] rfl (by kernel_rfl) (by kernel_rfl) (by kernel_rfl)
   (OpenSpec.preRow_of_cond 8 hx (by kernel_rfl) (fun k hk => by cases hk; kernel_rfl) (by kernel_rfl) (ywi os))) ?_
 intro W base args ds gs before hval hW _ hcond hsz hL _ _
 exact contract H enc W base args ds gs before hval hW _ (by kernel_rfl) (by kernel_rfl) hsz (hcond _ rfl)

theorem said : Rows.TreePartsUptoSaid :=
 OpenClaim.holds_of_cond 4 Tryz.f4 rfl rfl rfl rfl rfl rfl rfl ⟨rfl, rfl, rfl, rfl, rfl⟩ rfl rfl rfl rfl rfl (by kernel_rfl) Tryz.func4 (by kernel_rfl)
  (of_decide_eq_true (by kernel_rfl)) (by unfold Func.isWrapper; first | (rw [if_pos (by decide +kernel)]; kernel_rfl) | (rw [if_neg (by decide +kernel)]; exact ⟨rfl, rfl⟩))
  (fun os started H enc _ F => by rw [OpenClaim.pre_eq_preRow]; exact lifted os started H enc F)

end Go.Proofs.YtdnindaohpdblaaGreat.treePartsUpto
