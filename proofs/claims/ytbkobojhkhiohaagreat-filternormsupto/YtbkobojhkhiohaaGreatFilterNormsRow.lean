/-
 Norms, centres, and which next numbers keep a norm within a bound: the law's answer, where all that comes in has at most 1048576 limbs and elements.
-/
import Derived.Test.YtbkobojhkhiohaaGreatFmE
import Derived.ShutString
import Derived.ChangeOld
import Derived.Deep.DeepHandedRow
set_option linter.all false
namespace Go.Proofs.YtbkobojhkhiohaaGreat.filterNormsUpto
open Go.ChangeShapes Go.WideShapes Go.ChangeAt Go.RowKit
open Go.ChangeMaps (open_string shut_string)
set_option maxRecDepth 20000

theorem own : ownKnob Tryz.prog.godebug = none := by kernel_rfl
theorem laidOut : laidOutB Tryz.prog = true := by kernel_rfl

theorem yuq {H : Type} (d : DataW H) : 1 ≤ Rows.uptoBulk d := by
 cases d with
 | lit l => cases l <;> simp [Rows.uptoBulk]
 | nil => simp [Rows.uptoBulk]
 | ptr d => simp [Rows.uptoBulk]
 | slice elems spare => simp [Rows.uptoBulk]
 | agg parts => simp [Rows.uptoBulk]
 | iface t d => simp [Rows.uptoBulk]
 | map entries => simp [Rows.uptoBulk]
 | held h => simp [Rows.uptoBulk]
theorem ydl {H : Type} (l : List (DataW H)) : l.length ≤ Rows.uptoBulkAll l := by
 induction l with
 | nil => simp [Rows.uptoBulkAll]
 | cons x r ih => have := yuq x; simp only [Rows.uptoBulkAll, zgo]; omega
theorem yd5 {H : Type} {d : DataW H} {c : Nat} (h : Reads d c) : c ≤ Rows.uptoBulk d := by
 rcases h with ⟨rfl, rfl⟩ | ⟨es, sp, rfl, rfl⟩
 ·omega
 ·have h1 := ydl es
  have h2 := ydl sp
  simp only [Rows.uptoBulk]
  omega

theorem yol {H : Type} {d : DataW H} {l : List (DataW H)} (h : d ∈ l) : Rows.uptoBulk d ≤ Rows.uptoBulkAll l := by
 induction l with
 | nil => cases h
 | cons x r ih =>
  simp only [Rows.uptoBulkAll]
  rcases zgy.1 h with rfl | h
  ·omega
  ·have := ih h; omega
theorem yrc {H : Type} {d : DataW H} {c : Nat} {es : List El} (h : ReadsL d c es) : c ≤ Rows.uptoBulk d ∧ ∀ (i : Nat) (e : El), es[i]? = some e → e.c ≤ Rows.uptoBulk d ∨ c = 0 := by
 rcases h with ⟨rfl, rfl⟩ | ⟨ds, sp, rfl, rfl, hall⟩
 ·exact ⟨by omega, fun _ _ _ => Or.inr rfl⟩
 ·have h1 := ydl ds
  have h2 := ydl sp
  refine ⟨by simp only [Rows.uptoBulk]; omega, fun i e he => Or.inl ?_⟩
  obtain ⟨d1, hm, hr⟩ := hall i e he
  have h3 := yol (zfc hm)
  have h4 := yd5 hr
  simp only [Rows.uptoBulk, Rows.uptoBulkAll] at h3 ⊢
  omega

theorem ylu {H : Type} {d : DataW H} {c : Nat} {rs : List Rw} (h : ReadsM d c rs) : c ≤ Rows.uptoBulk d ∧ ∀ (i : Nat) (r : Rw), rs[i]? = some r → c ≠ 0 → r.c ≤ Rows.uptoBulk d ∧ ∀ (j : Nat) (e : El), r.es[j]? = some e → e.c ≤ Rows.uptoBulk d ∨ r.c = 0 := by
 rcases h with ⟨rfl, rfl⟩ | ⟨ds, sp, rfl, rfl, hall⟩
 ·exact ⟨by omega, fun _ _ _ h => absurd rfl h⟩
 ·have h1 := ydl ds
  have h2 := ydl sp
  refine ⟨by simp only [Rows.uptoBulk]; omega, fun i r hr _ => ?_⟩
  obtain ⟨d1, hm, hl⟩ := hall i r hr
  have h3 := yol (zfc hm)
  obtain ⟨h4, h5⟩ := yrc hl
  simp only [Rows.uptoBulk]
  refine ⟨by omega, fun j e he => ?_⟩
  rcases h5 j e he with h | h
  ·exact Or.inl (by omega)
  ·exact Or.inr h

theorem ykb {H α : Type} (f : α → Nat) : ∀ (es : List α) (ds : List (DataW H)), (∀ (i : Nat) e, es[i]? = some e → ∃ d, ds[i]? = some d ∧ f e ≤ Rows.uptoBulk d) → (es.map f).sum ≤ Rows.uptoBulkAll ds
 | [], ds, _ => by simp
 | e :: r, [], h => by obtain ⟨d, hd, _⟩ := h 0 e rfl; simp at hd
 | e :: r, d :: ds, h => by
  obtain ⟨d', hd, h1⟩ := h 0 e rfl
  simp at hd
  subst hd
  have := ykb f r ds (fun i x hx => by obtain ⟨y, hy, h2⟩ := h (i + 1) x (by simpa using hx); exact ⟨y, by simpa using hy, h2⟩)
  simp only [zgz, zhp, Rows.uptoBulkAll]
  omega
theorem yom {H : Type} {d : DataW H} {c : Nat} {es : List El} (h : ReadsL d c es) (hn : es.length ≤ c) : (es.map (fun e => e.c + 1)).sum ≤ Rows.uptoBulk d := by
 rcases h with ⟨rfl, rfl⟩ | ⟨ds, sp, rfl, rfl, hall⟩
 ·have : es = [] := zfw.1 (by omega)
  subst this
  simp
 ·have := ykb (fun e : El => e.c + 1) es ds (fun i e he => by
   obtain ⟨d1, hm, hr⟩ := hall i e he
   refine ⟨_, hm, ?_⟩
   have h4 := yd5 hr
   simp only [Rows.uptoBulk, Rows.uptoBulkAll]
   omega)
  simp only [Rows.uptoBulk]
  omega

theorem yrd {H : Type} {d : DataW H} {c : Nat} {rs : List Ra} (h : ReadsQ d c rs) (hn : rs.length ≤ c) : (rs.map (fun r => r.x.c + r.y.c + 1)).sum ≤ Rows.uptoBulk d := by
 rcases h with ⟨rfl, rfl⟩ | ⟨ds, sp, rfl, rfl, hall⟩
 ·have : rs = [] := zfw.1 (by omega)
  subst this
  simp
 ·have := ykb (fun r : Ra => r.x.c + r.y.c + 1) rs ds (fun i r hr => by
   obtain ⟨d1, d2, hm, h1, h2⟩ := hall i r hr
   refine ⟨_, hm, ?_⟩
   have h4 := yd5 h1
   have h5 := yd5 h2
   simp only [Rows.uptoBulk, Rows.uptoBulkAll]
   omega)
  simp only [Rows.uptoBulk]
  omega

theorem contract (H : Type) (enc : TypeId × Value → H) (W : World) (base : Nat) (args : Array Value) (ds gs : List (DataW H)) (before : List MemPlace)
  (hval0 : ∀ (j : Nat) t v, Tryz.f3.params[j]? = some t → args[j]? = some v → Value.okWide Tryz.prog W .any base t v)
  (hW : DataW.Whole enc Tryz.prog Tryz.f3.params.toList Rows.filterNormsSpec.vars false W args.toList ds gs before)
  (ts : List TypeId) (ht0 : ts[0]? = some 25) (ht1 : ts[1]? = some 26) (ht2 : ts[2]? = some 22) (ht3 : ts[3]? = some 31)
  (hsz : (DataW.weightsEach Tryz.prog ts (ds ++ gs)).all (· ≤ reachBytes) = true) (hk : Rows.uptoSmall H (ds ++ gs) = true) :
  Calls Tryz.prog 3 args W fun e W' => ∃ v, e = .returned v ∧ Rows.filterNormsSpec.post enc Tryz.prog Tryz.f3 false true false false W args v W' := by
 have hval : ∀ (j : Nat) t v, Tryz.f3.params[j]? = some t → args[j]? = some v → Value.okWide Tryz.prog W .any base t v := hval0
 have hW' := hW
 obtain ⟨p, q, hA0, hV, rfl, hfz, hnd⟩ := hW
 have hA : DataW.TrodAll enc Tryz.prog W 0 (fun _ => true) true Tryz.f3.params.toList args.toList ds p := hA0
 rw [Tryz.params3] at hA hval
 obtain ⟨v0, vs0, d0, ds0, pl0, q0, hargs, rfl, rfl, h0, r0⟩ := trodAll_cons hA
 obtain ⟨v1, vs1, d1, ds1, pl1, q1, rfl, rfl, rfl, h1, r1⟩ := trodAll_cons r0
 obtain ⟨v2, vs2, d2, ds2, pl2, q2, rfl, rfl, rfl, h2, r2⟩ := trodAll_cons r1
 obtain ⟨v3, vs3, d3, ds3, pl3, q3, rfl, rfl, rfl, h3, r3⟩ := trodAll_cons r2
 obtain ⟨rfl, rfl, rfl⟩ := trodAll_nil r3
 obtain rfl : args = #[v0, v1, v2, v3] := by cases args; simp_all
 obtain ⟨rfl, rfl⟩ := trodVars_none hV
 have k0 := h0
 have lt0 : ∀ x ∈ pl0, x.block < W.heap.size := by obtain ⟨m, hm⟩ := k0; exact DataW.trod_lt m _ _ _ hm
 obtain ⟨a0, n0, c0, es0, bb0, m0, dd0, rs0, da0, db0, rfl, s0, z0, rfl, e0, f0⟩ := yxo (hval 0 25 v0 rfl rfl) h0
 have k1 := h1
 have lt1 : ∀ x ∈ pl1, x.block < W.heap.size := by obtain ⟨m, hm⟩ := k1; exact DataW.trod_lt m _ _ _ hm
 obtain ⟨a1, n1, c1, es1, rfl, s1, e1⟩ := yuo (hval 1 26 v1 rfl rfl) h1
 have k2 := h2
 have lt2 : ∀ x ∈ pl2, x.block < W.heap.size := by obtain ⟨m, hm⟩ := k2; exact DataW.trod_lt m _ _ _ hm
 obtain ⟨a2, n2, c2, es2, rfl, s2, e2⟩ := yun (hval 2 22 v2 rfl rfl) h2
 have k3 := h3
 have lt3 : ∀ x ∈ pl3, x.block < W.heap.size := by obtain ⟨m, hm⟩ := k3; exact DataW.trod_lt m _ _ _ hm
 obtain ⟨sg3, a3, n3, c3, xs3, tg3, bb3, m3, dd3, ys3, da3, db3, rfl, s3, z3, rfl, e3, f3⟩ := yxp (hval 3 31 v3 rfl rfl) h3
 have hbulk := of_decide_eq_true hk
 simp only [zfx, Rows.uptoBulkAll] at hbulk
 have hb0 : Rows.uptoBulk da0 + Rows.uptoBulk db0 + Rows.uptoBulk d1 + Rows.uptoBulk d2 + Rows.uptoBulk da3 + Rows.uptoBulk db3 + 3 ≤ 1048576 := by
  generalize Rows.uptoBulk d1 = b1 at *
  generalize Rows.uptoBulk d2 = b2 at *
  simp only [Rows.uptoBulk, Rows.uptoBulkAll] at hbulk
  omega
 have yy0 : ∀ (i : Nat) (r : Rw), rs0[i]? = some r → r.c ≤ Rows.uptoBulk db0 ∧ ∀ (j : Nat) (e : El), r.es[j]? = some e → e.c ≤ Rows.uptoBulk db0 := fun i r hr => by
  have h5 := z0.len
  have h6 := z0.cap
  have h7 := (zfa.1 hr).1
  obtain ⟨q1, q2⟩ := (ylu f0).2 i r hr (by omega)
  refine ⟨q1, fun j e he => ?_⟩
  rcases q2 j e he with h | h
  ·exact h
  ·obtain ⟨b, o, _, _, L⟩ := z0.lie i r hr
   have := L.cap
   have := L.len
   have := (zfa.1 he).1
   omega
 have tt0 := yom e0 (by have := s0.len; have := s0.cap; omega)
 have tt1 := yrd e1 (by have := s1.len; have := s1.cap; omega)
 have tt2 := yom e2 (by have := s2.len; have := s2.cap; omega)
 clear hA0 hval0 hval
 refine (yhr W a0 n0 c0 es0 bb0 m0 dd0 rs0 a1 n1 c1 es1 a2 n2 c2 es2 sg3 a3 n3 c3 xs3 tg3 bb3 m3 dd3 ys3 s0 z0 s1 s2 s3 z3 _ _ _ _ _ _ tt0 (ylu f0).1 yy0 tt1 tt2 (yd5 e3) (yd5 f3) hb0).mono fun e W' ⟨he, bel⟩ => ?_
 subst he
 exact ⟨_, rfl, _, _, _, [], _, [], hW', trodAll_mk1 (shut_bool Tryz.underlying4 _), (trodAll_cons_mk (Below.trod laidOut (by kernel_rfl) (of_decide_eq_true (by kernel_rfl)) k0 bel lt0) (trodAll_cons_mk (Below.trod laidOut (by kernel_rfl) (of_decide_eq_true (by kernel_rfl)) k1 bel lt1) (trodAll_cons_mk (Below.trod laidOut (by kernel_rfl) (of_decide_eq_true (by kernel_rfl)) k2 bel lt2) (trodAll_cons_mk (Below.trod laidOut (by kernel_rfl) (of_decide_eq_true (by kernel_rfl)) k3 bel lt3) (trodAll_mk0))))), rfl, bel.frame _, fun h => by cases h⟩

noncomputable def laidWorld (os : Os) : World := World.holding Tryz.prog os ⟨#[], #[], []⟩
theorem yu5 (os : Os) : laidMet Tryz.prog Rows.filterNormsUptoRow.laid ((laidWorld os).forCall (fun _ _ => 0) ⟨#[], #[Value.agg #[Value.slice none 0 0, Value.slice none 0 0], .slice none 0 0, .slice none 0 0, Value.agg #[Value.bool false, Value.slice none 0 0, Value.bool false, Value.slice none 0 0]], []⟩).memory :=
 laidMet_of_run' 8 (by kernel_rfl) (by kernel_rfl)
theorem reads (os : Os) {H : Type} (enc : TypeId × Value → H) : ∃ places, DataW.whole enc Tryz.prog ((laidWorld os).forCall (fun _ _ => 0) ⟨#[], #[Value.agg #[Value.slice none 0 0, Value.slice none 0 0], .slice none 0 0, .slice none 0 0, Value.agg #[Value.bool false, Value.slice none 0 0, Value.bool false, Value.slice none 0 0]], []⟩).memory Tryz.f3.params.toList Rows.filterNormsSpec.vars false (#[Value.agg #[Value.slice none 0 0, Value.slice none 0 0], .slice none 0 0, .slice none 0 0, Value.agg #[Value.bool false, Value.slice none 0 0, Value.bool false, Value.slice none 0 0]] : Array Value).toList 8 = some ([.agg [.nil, .nil], .nil, .nil, .agg [.agg [.lit (.bool false), .nil], .agg [.lit (.bool false), .nil]]], [], places) :=
 ⟨[], by kernel_rfl⟩

set_option maxRecDepth 100000 in
theorem lifted (os : Os) (started : os.Started) (H : Type) (enc : TypeId × Value → H) (F : Stop.Interp) :
  ReturnsInHanded {} Tryz.checked os 3 .any ((Rows.OpenSpec.upto Rows.filterNormsSpec).preRow enc Tryz.prog Tryz.f3 Rows.filterNormsUptoRow.domain false Rows.filterNormsUptoRow.laid) (((Rows.OpenSpec.upto Rows.filterNormsSpec).at F).post enc Tryz.prog Tryz.f3 false true false false) := by
 obtain ⟨places, hx⟩ := reads os enc
 refine returnsInHanded_of_row (C := Tryz.checked) (s := Rows.OpenSpec.upto Rows.filterNormsSpec) own started (by kernel_rfl) Tryz.func3
  (witness_row_at (enc := enc) (C := Tryz.checked) false (laidWorld os) #[Value.agg #[Value.slice none 0 0, Value.slice none 0 0], .slice none 0 0, .slice none 0 0, Value.agg #[Value.bool false, Value.slice none 0 0, Value.bool false, Value.slice none 0 0]] rfl (by kernel_rfl) (by kernel_rfl) (by kernel_rfl)
   (OpenSpec.preRow_of_cond 8 hx (by kernel_rfl) (fun k hk => by cases hk; kernel_rfl) (by kernel_rfl) (yu5 os))) ?_
 intro W base args ds gs before hval hW _ hcond hsz hL _ _
 exact contract H enc W base args ds gs before hval hW _ (by kernel_rfl) (by kernel_rfl) (by kernel_rfl) (by kernel_rfl) hsz (hcond _ rfl)

theorem said : Rows.FilterNormsUptoSaid :=
 OpenClaim.holds_of_cond 3 Tryz.f3 rfl rfl rfl rfl rfl rfl rfl ⟨rfl, rfl, rfl, rfl, rfl⟩ rfl rfl rfl rfl rfl (by kernel_rfl) Tryz.func3 (by kernel_rfl)
  (of_decide_eq_true (by kernel_rfl)) (by unfold Func.isWrapper; first | (rw [if_pos (by decide +kernel)]; kernel_rfl) | (rw [if_neg (by decide +kernel)]; exact ⟨rfl, rfl⟩))
  (fun os started H enc _ F => by rw [OpenClaim.pre_eq_preRow]; exact lifted os started H enc F)

end Go.Proofs.YtbkobojhkhiohaaGreat.filterNormsUpto
