import Derived.RangeFuncBox
import Derived.Shelf.Abstract
import Derived.OwnWalkIn
import Derived.TacticsInMore
import Derived.Test.YtdnindaohpdblaaGreatTzC
set_option linter.all false
namespace Go.Proofs.YtdnindaohpdblaaGreat
open Go Go.RowKit Go.Shelf Nt
set_option maxRecDepth 20000
set_option maxHeartbeats 16000000
theorem yzz {B : Nat → Prop} {w w1 : World} (h : Ev (fun _ => False) w w1) : Ev B w w1 := ⟨h.os, h.tape, h.output, h.size, fun k hk _ => h.block k hk id⟩
theorem yhw {B : Nat → Prop} {w w1 : World} {b sz : Nat} {T : TypeId} {cs : Array Value} {φ : Pr} (h : Has B w φ (.agg cs)) (hs : cs.size = sz) (he : Ev (fun _ => False) w w1) (hb : w1.heap[b]? = some (.cells cs T (0, 0))) (hB : ¬ B b) : Has B w1 (AtE sz φ) (.pointer (some ⟨b, 0, none⟩)) := fun w' e => by
 have e2 := (e.block b (zdh.1 hb).1 hB).trans hb
 refine ⟨b, 0, .agg cs, rfl, fun j x hx => ?_, hs, h w' ((yzz he).back (fun k _ h => h) e)⟩
 rw [zeh, yax e2]
 exact hx
theorem yua (cs ds : Array Value) (w : World) :
  Calls Tryz.prog 114 #[.agg cs, .agg ds] w fun e w' => e = .returned (.func (.func 124) #[] #[.pointer (some ⟨w.heap.size, 0, none⟩), .pointer (some ⟨w.heap.size + 1, 0, none⟩)]) ∧ w' = (w.alloc (.cells cs 75)).alloc (.cells ds 26) := by
 refine (callsIn_wide (n := 3)).1 ?_
 refine callsIn_of_wp Tryz.func114 rfl trivial ?_ rfl
 simp only [Tryz.ntmps114, zfs, zeu, zf9, Nat.reduceAdd, Nat.reduceSub, Array.replicate_succ, Array.replicate_zero, List.push_toArray, List.append_toArray, zea, zfx]
 gi_wp2
 go_ret
 exact ⟨by simp, rfl⟩
def KF (f : FuncId) (φ ψ : Pr) : Pr := fun v w => ∃ p q, v = .func (.func f) #[] #[p, q] ∧ AtE 8 φ p w ∧ AtE 4 ψ q w
theorem zad {φ ψ : Pr} (hφ : Shp 8 φ) (hψ : Shp 4 ψ) (B : Nat → Prop) (w : World) (u v : Value) (hB : ∀ k, B k → k < w.heap.size) (hu : Has B w φ u) (hv : Has B w ψ v) :
  Calls Tryz.prog 114 #[u, v] w fun e w' => ∃ r, e = .returned r ∧ Below w.heap.size w w' ∧ Has B w' (KF 124 φ ψ) r := by
 obtain ⟨cs, rfl, hc, _⟩ := hφ _ _ hu.now
 obtain ⟨ds, rfl, hd, _⟩ := hψ _ _ hv.now
 refine (yua cs ds w).mono ?_
 rintro e w' ⟨rfl, rfl⟩
 have hb : Below w.heap.size w ((w.alloc (.cells cs 75)).alloc (.cells ds 26)) := ((Below.refl _ w).alloc (zde _) _).alloc (by simp) _
 have n1 : ¬ B w.heap.size := fun h => by have := hB _ h; omega
 have n2 : ¬ B (w.heap.size + 1) := fun h => by have := hB _ h; omega
 have k1 : ((w.alloc (.cells cs 75)).alloc (.cells ds 26)).heap[w.heap.size]? = some (.cells cs 75 (0, 0)) := (Below.heap_alloc _ _ _ (by simp)).trans (World.alloc_heap_new w _)
 have k2 : ((w.alloc (.cells cs 75)).alloc (.cells ds 26)).heap[w.heap.size + 1]? = some (.cells ds 26 (0, 0)) := by
  have := World.alloc_heap_new (w.alloc (.cells cs 75)) (.cells ds 26)
  rwa [World.size_alloc] at this
 have h1 := yhw hu hc (Ev.of_below hb) k1 n1
 have h2 := yhw hv hd (Ev.of_below hb) k2 n2
 exact ⟨_, rfl, hb, fun w2 e2 => ⟨_, _, rfl, h1 w2 e2, h2 w2 e2⟩⟩
end Go.Proofs.YtdnindaohpdblaaGreat

namespace Go.Proofs.YtdnindaohpdblaaGreat
open Go Go.RowKit Nt
set_option maxRecDepth 20000
set_option maxHeartbeats 16000000
def Hx (V : Nat → Prop) (φ : Pr) : Pr := fun v w => Has V w φ v
theorem Hx.nw {V : Nat → Prop} {φ : Pr} {v : Value} {w : World} (h : Hx V φ v w) : φ v w := Has.now h
open Classical in
noncomputable def midW (B V : Nat → Prop) (w w' : World) : World := { w' with heap := Array.ofFn (fun i : Fin w'.heap.size => if h : i.1 < w.heap.size ∧ V i.1 ∧ ¬ B i.1 then w.heap[i.1]'h.1 else w'.heap[i.1]'i.2) }
theorem yd2 {B V : Nat → Prop} {w w' : World} : (midW B V w w').heap.size = w'.heap.size := by simp [midW]
open Classical in
theorem yha {B V : Nat → Prop} {w w' : World} (hs : w.heap.size ≤ w'.heap.size) (k : Nat) : (midW B V w w').heap[k]? = if k < w.heap.size ∧ V k ∧ ¬ B k then w.heap[k]? else w'.heap[k]? := by
 by_cases hk : k < w'.heap.size
 ·have h1 : k < (midW B V w w').heap.size := by rw [yd2]; exact hk
  rw [zd6 h1]
  simp only [midW, Array.getElem_ofFn]
  by_cases h : k < w.heap.size ∧ V k ∧ ¬ B k
  ·rw [dif_pos h, if_pos h, zd6 h.1]
  ·rw [dif_neg h, if_neg h, zd6 hk]
 ·rw [ze7 (by rw [yd2]; omega), if_neg (fun h => hk (zdi h.1 hs)), ze7 (by omega)]
theorem yhx {B V : Nat → Prop} {w : World} {φ : Pr} {v : Value} (h : Has B w (Hx V φ) v) : Has (fun k => B k ∨ V k) w φ v := fun w' e => by
 have e1 : Ev B w (midW B V w w') := ⟨e.os, e.tape, e.output, by rw [yd2]; exact e.size, fun k hk hB => by
  rw [yha e.size]
  by_cases hv : V k
  ·rw [if_pos ⟨hk, hv, hB⟩]
  ·rw [if_neg (fun h => hv h.2.1)]
   exact e.block k hk (fun h => h.elim hB hv)⟩
 have e2 : Ev V (midW B V w w') w' := ⟨rfl, rfl, rfl, by rw [yd2]; exact zde _, fun k hk hv => by
  rw [yha e.size, if_neg (fun h => hv h.2.1)]⟩
 exact h _ e1 _ e2
theorem yk1 {B V : Nat → Prop} {w : World} {φ : Pr} {v : Value} (h : Has (fun k => B k ∨ V k) w φ v) : Has B w (Hx V φ) v := fun w' e w'' e' => h w'' ⟨e'.os.trans e.os, e'.tape.trans e.tape, e'.output.trans e.output, zdf e.size e'.size, fun k hk hn => (e'.block k (zdi hk e.size) (fun h => hn (.inr h))).trans (e.block k hk (fun h => hn (.inl h)))⟩
theorem yv0 {V : Nat → Prop} {w : World} {φ : Pr} {v : Value} (h : Has V w φ v) : Has (fun _ => False) w (Hx V φ) v := yk1 (Has.mono' h (fun k h => h.elim (fun f => f.elim) id))
theorem yq8 {V V' : Nat → Prop} {w w' : World} {φ : Pr} {v : Value} (h : Has V w φ v) (e : Ev V w w') (hV : ∀ k, k < w.heap.size → V' k → V k) : Has V' w' φ v := h.go e hV
theorem yw6 {V : Nat → Prop} {w : World} {sz : Nat} {φ : Pr} {v : Value} (hz : 0 < sz) (hc : Cel sz φ) (h : Has V w (AtE sz φ) v) : Has V w (AtE sz (Hx V φ)) v := fun w' e => by
 obtain ⟨b, o, u, e1, h1, h2, h3⟩ := ynr hz hc (h.go e (fun _ _ h => h))
 exact ⟨b, o, u, e1, h1, h2.siz, h3⟩
theorem ye7 {V : Nat → Prop} {sz : Nat} {φ : Pr} (h : Cel sz φ) : Cel sz (Hx V φ) := fun u w hu => h u w (Hx.nw hu)
theorem ywm {V : Nat → Prop} {sz : Nat} {φ : Pr} (h : Shp sz φ) : Shp sz (Hx V φ) := fun u w hu => h u w (Hx.nw hu)
theorem zcc {V : Nat → Prop} {w : World} {sz n : Nat} {φs : List Pr} {v : Value} (hz : 0 < sz) (hc : ∀ (k : Nat) φ, φs[k]? = some φ → Cel sz φ) (h : Has V w (Ar sz n φs) v) : Has V w (Ar sz n (φs.map (Hx V))) v := fun w' e => by
 obtain ⟨vs, lv, h1, h2⟩ := yvn hz hc (h.go e (fun _ _ h => h))
 obtain ⟨p, c, e1, l1, b1, a1⟩ := h2.now
 refine ⟨p, c, e1, ?_, b1, fun i ψ hψ => ?_⟩
 ·obtain ⟨_, _, _, l2, _⟩ := (h.go e (fun _ _ h => h)).now
  rw [zgz]; exact l2
 ·rw [zds] at hψ
  cases hφ : φs[i]? with
  | none => simp [hφ] at hψ
  | some φ =>
   simp [hφ] at hψ
   subst hψ
   obtain ⟨_, _, _, l2, _⟩ := (h.go e (fun _ _ h => h)).now
   have hi : i < vs.length := by rw [lv, ← l2]; exact (zdl.1 hφ).1
   have hp : (Pl vs φs)[i]? = some (PI vs[i] φ) := by
    simp [Pl, List.getElem?_zipWith, hφ, hi]
   obtain ⟨b, o, u, e2, h3, h4, h5, h6⟩ := a1 i _ hp
   subst h5
   exact ⟨b, o, _, e2, h3, h4, h1 i _ φ (by simp [hi]) hφ⟩
structure NEl where
 l : List Int
 p : Option Addr
 c : Nat
def NEl.v (x : NEl) : Value := .slice x.p x.l.length x.c
def nds (kd : List Int → List Int) : Nat → List Int → List (List Int)
 | 0, _ => []
 | m + 1, s => (kd s).flatMap (fun z => (s ++ [z]) :: nds kd m (s ++ [z]))
theorem zac {f : FuncId} {V : Nat → Prop} {w : World} {φ ψ : Pr} {v : Value} (h : Has V w (KF f φ ψ) v) : ∃ p q, v = .func (.func f) #[] #[p, q] ∧ Has V w (AtE 8 φ) p ∧ Has V w (AtE 4 ψ) q := by
 obtain ⟨p, q, rfl, _, _⟩ := h.now
 refine ⟨p, q, rfl, fun w' e => ?_, fun w' e => ?_⟩
 ·obtain ⟨p', q', e1, h1, _⟩ := h w' e
  cases e1
  exact h1
 ·obtain ⟨p', q', e1, _, h1⟩ := h w' e
  cases e1
  exact h1
theorem yra : Ldr 130 1 := fun ρ o x w b k u hu hc hx => by
 obtain ⟨e, h1⟩ := celv1 hu
 have h2 : w.cell? ⟨b, k, none⟩ = some u := hc 0 u (by rw [e]; rfl)
 clear hc hu e
 unfold execOp
 go_simp
theorem yzt (ρ : Operand → Value) (o : Oper) (x : Operand) (w : World) (hu : Celv 1 (ρ x)) : (execOp ρ { o with op := .box 130 x }).run Tryz.prog w = .ok (.value (.pointer (some ⟨w.heap.size, 0, none⟩))) (w.alloc (.cells (ρ x).cells 130 (0, 0))) := by
 obtain ⟨e, h1⟩ := celv1 hu
 rw [e]
 clear hu e
 generalize hx : ρ x = u at *
 cases u <;> first | (simp [Value.oneCell'] at h1; done) | (unfold execOp; go_simp; done)
def Vmd (V : Nat → Prop) (lo hi : Nat) : Nat → Prop := fun k => V k ∨ (lo ≤ k ∧ k < hi)
theorem ydh {B V : Nat → Prop} {w w' : World} (h : Ev B w w') (hB : ∀ k, k < w.heap.size → B k → V k) : Ev V w w' := ⟨h.os, h.tape, h.output, h.size, fun k hk hn => h.block k hk (fun hb => hn (hB k hk hb))⟩
theorem ybb {B : Nat → Prop} {w w' w'' : World} (h : Ev B w w') (h' : Ev B w' w'') : Ev B w w'' := h.back (fun _ _ h => h) h'
theorem yzp {V : Nat → Prop} {w : World} {sz : Nat} {φ φ' : Pr} {v : Value} (hz : 0 < sz) (hc : Cel sz φ) (hi : ∀ w' u, Has V w' φ u → φ' u w') (h : Has V w (AtE sz φ) v) : Has V w (AtE sz φ') v := fun w' e => by
 obtain ⟨b, o, u, e1, h1, h2, h3⟩ := ynr hz hc (h.go e (fun _ _ h => h))
 exact ⟨b, o, u, e1, h1, h2.siz, hi _ _ h3⟩
theorem ypf {f : FuncId} {fn : Func} {c : Code} {args : Array Value} {w : World} {R : Ending → World → Prop} {n : Nat} {sl : List (Tmp × Pr)} (hf : Tryz.prog.funcs[f]? = some fn) (hb : fn.body = some c) (hn : fn.ntmps = n) (hs : args.size ≤ n)
  (h : ∀ x ∈ sl, ∃ v, args[x.1]? = some v ∧ Has (fun _ => False) w x.2 v) (k : ∀ a, Sta w n [] sl (fun _ => False) a w → c.wp Tryz.prog (bodyPostM Fence.wide 8 Tryz.prog fn R) a w) : Calls Tryz.prog f args w R := by
 refine (callsIn_wide (n := 8)).1 (callsIn_of_wp_marks hf hb trivial (wpIn_wide.2 (k _ (ycu ?_ rfl (fun x hx => ?_)))) rfl)
 ·simp [hn]; omega
 ·obtain ⟨v, hv, hh⟩ := h x hx
  have hlt : x.1 < args.size := (zdh.1 hv).1
  have e : (Act.eval { tmps := args ++ Array.replicate (fn.ntmps - args.size) undef, defers := [] } (.tmp x.1)) = v := by
   simp only [Act.eval, zgq, Array.getElem?_append_left hlt, hv, Option.getD_some]
  rw [e]
  exact hh
theorem lift2 {f : FuncId} {φ ψ χ : Pr} {V : Nat → Prop} {lo : Nat} (C : ∀ (B : Nat → Prop) (w : World) (u v : Value), (∀ k, B k → k < w.heap.size) → Has B w φ u → Has B w ψ v → Calls Tryz.prog f #[u, v] w fun e w' => ∃ r, e = .returned r ∧ Below w.heap.size w w' ∧ Has B w' χ r) (hV : ∀ k, V k → k < lo) :
  ∀ (B : Nat → Prop) (w : World) (u v : Value), lo ≤ w.heap.size → (∀ k, B k → k < w.heap.size) → Has B w (Hx V φ) u → Has B w (Hx V ψ) v → Calls Tryz.prog f #[u, v] w fun e w' => ∃ r, e = .returned r ∧ Below w.heap.size w w' ∧ Has B w' (Hx V χ) r := fun B w u v hl hB hu hv => by
 refine (C (fun k => B k ∨ V k) w u v (fun k h => h.elim (hB k) (fun h => zdi (hV k h) hl)) (yhx hu) (yhx hv)).mono ?_
 rintro e w' ⟨r, e1, hb, h⟩
 exact ⟨r, e1, hb, yk1 h⟩
theorem lift3 {f : FuncId} {φ ψ θ χ : Pr} {V : Nat → Prop} {lo : Nat} (C : ∀ (B : Nat → Prop) (w : World) (u v t : Value), (∀ k, B k → k < w.heap.size) → Has B w φ u → Has B w ψ v → Has B w θ t → Calls Tryz.prog f #[u, v, t] w fun e w' => ∃ r, e = .returned r ∧ Below w.heap.size w w' ∧ Has B w' χ r) (hV : ∀ k, V k → k < lo) :
  ∀ (B : Nat → Prop) (w : World) (u v t : Value), lo ≤ w.heap.size → (∀ k, B k → k < w.heap.size) → Has B w (Hx V φ) u → Has B w (Hx V ψ) v → Has B w (Hx V θ) t → Calls Tryz.prog f #[u, v, t] w fun e w' => ∃ r, e = .returned r ∧ Below w.heap.size w w' ∧ Has B w' (Hx V χ) r := fun B w u v t hl hB hu hv ht => by
 refine (C (fun k => B k ∨ V k) w u v t (fun k h => h.elim (hB k) (fun h => zdi (hV k h) hl)) (yhx hu) (yhx hv) (yhx ht)).mono ?_
 rintro e w' ⟨r, e1, hb, h⟩
 exact ⟨r, e1, hb, yk1 h⟩
section
variable {ops : Array Oper} {l : List Kd} {bx : Bxs} {sl : List (Tmp × Pr)} {i : Nat} {o : Oper} {Q : Exit → Act → World → Prop} {a0 : Act} {n0 : Nat} {w0 : World}
theorem yi8 {f : FuncId} {x y z : Operand} {φ ψ θ χ : Pr} {ts : Array TypeId} (ho : ops[i]? = some o) (hw : Wants ops l bx sl i o) (hop : o.op = .call { callee := .value (.func f), args := #[x, y, z], argTypes := ts }) (hx : Opnd ops l bx sl i x φ) (hy : Opnd ops l bx sl i y ψ) (hz : Opnd ops l bx sl i z θ) (hk : kdAt l i = .val χ) (hcf : ∀ args w, (callFunc f args).run Tryz.prog w = .ok (.enter f args) w)
  (C : ∀ (B : Nat → Prop) w u v t, w0.heap.size ≤ w.heap.size → (∀ k, B k → k < w.heap.size) → Has B w φ u → Has B w ψ v → Has B w θ t → Calls Tryz.prog f #[u, v, t] w fun e w' => ∃ r, e = .returned r ∧ Below w.heap.size w w' ∧ Has B w' χ r) : Owed Tryz.prog ops Q l bx sl a0 n0 w0 i :=
 yh3 ho hw hop hk hcf fun vs B a w c => by
  rw [show (#[x, y, z] : Array Operand).map a.eval = #[a.eval x, a.eval y, a.eval z] from by simp]
  exact C B w _ _ _ c.lo (fun k hk => (c.bnd k hk).2) (hx a0 n0 w0 vs B a w c) (hy a0 n0 w0 vs B a w c) (hz a0 n0 w0 vs B a w c)
end
def BF (f : FuncId) (φ ψ χ : Pr) : Pr := fun v w => ∃ p q t, v = .func (.func f) #[] #[p, q, t] ∧ AtE 8 φ p w ∧ AtE 4 ψ q w ∧ AtE 1 χ t w
theorem yvq {f : FuncId} {V : Nat → Prop} {w : World} {φ ψ χ : Pr} {v : Value} (h : Has V w (BF f φ ψ χ) v) : ∃ p q t, v = .func (.func f) #[] #[p, q, t] ∧ Has V w (AtE 8 φ) p ∧ Has V w (AtE 4 ψ) q ∧ Has V w (AtE 1 χ) t := by
 obtain ⟨p, q, t, rfl, _, _, _⟩ := h.now
 refine ⟨p, q, t, rfl, fun w' e => ?_, fun w' e => ?_, fun w' e => ?_⟩ <;>
 ·obtain ⟨p', q', t', e1, h1, h2, h3⟩ := h w' e
  cases e1
  first | exact h1 | exact h2 | exact h3
theorem yqg (cs ds : Array Value) (p : Option Addr) (n c : Nat) (w : World) :
  Calls Tryz.prog 88 #[.agg cs, .slice p n c, .agg ds] w fun e w' => e = .returned (.func (.func 113) #[] #[.pointer (some ⟨w.heap.size, 0, none⟩), .pointer (some ⟨w.heap.size + 2, 0, none⟩), .pointer (some ⟨w.heap.size + 1, 0, none⟩)]) ∧ w' = ((w.alloc (.cells cs 75)).alloc (.cells #[.slice p n c] 35)).alloc (.cells ds 26) := by
 refine (callsIn_wide (n := 3)).1 ?_
 refine callsIn_of_wp Tryz.func88 rfl trivial ?_ rfl
 simp only [Tryz.ntmps88, zfs, zeu, zf9, Nat.reduceAdd, Nat.reduceSub, Array.replicate_succ, Array.replicate_zero, List.push_toArray, List.append_toArray, zea, zfx]
 gi_wp2
 go_ret
 exact ⟨by simp, rfl⟩
theorem yt9 {B : Nat → Prop} {w w1 : World} {b : Nat} {T : TypeId} {u : Value} {φ : Pr} (h : Has B w φ u) (hs : u.cells = #[u]) (he : Ev (fun _ => False) w w1) (hb : w1.heap[b]? = some (.cells #[u] T (0, 0))) (hB : ¬ B b) : Has B w1 (AtE 1 φ) (.pointer (some ⟨b, 0, none⟩)) := fun w' e => by
 have e2 := (e.block b (zdh.1 hb).1 hB).trans hb
 refine ⟨b, 0, u, rfl, fun j x hx => ?_, by rw [hs]; rfl, h w' ((yzz he).back (fun k _ h => h) e)⟩
 rw [zeh, yax e2, ← hs]
 exact hx
theorem yqh {φ ψ θ : Pr} (hφ : Shp 8 φ) (hψ : Shp 4 ψ) (hθ : ∀ v w, θ v w → ∃ p n c, v = .slice p n c) (B : Nat → Prop) (w : World) (u t v : Value) (hB : ∀ k, B k → k < w.heap.size) (hu : Has B w φ u) (ht : Has B w θ t) (hv : Has B w ψ v) :
  Calls Tryz.prog 88 #[u, t, v] w fun e w' => ∃ r, e = .returned r ∧ Below w.heap.size w w' ∧ Has B w' (BF 113 φ ψ θ) r := by
 obtain ⟨cs, rfl, hc, _⟩ := hφ _ _ hu.now
 obtain ⟨ds, rfl, hd, _⟩ := hψ _ _ hv.now
 obtain ⟨p, n, c, rfl⟩ := hθ _ _ ht.now
 refine (yqg cs ds p n c w).mono ?_
 rintro e w' ⟨rfl, rfl⟩
 obtain ⟨w1, hw1⟩ : ∃ x, x = w.alloc (.cells cs 75) := ⟨_, rfl⟩
 obtain ⟨w2, hw2⟩ : ∃ x, x = w1.alloc (.cells #[.slice p n c] 35) := ⟨_, rfl⟩
 rw [← hw1, ← hw2]
 have s1 : w1.heap.size = w.heap.size + 1 := by rw [hw1]; simp
 have s2 : w2.heap.size = w.heap.size + 2 := by rw [hw2]; simp [s1]
 have b1 : Below w.heap.size w w1 := by rw [hw1]; exact (Below.refl _ w).alloc (zde _) _
 have b2 : Below w.heap.size w w2 := by rw [hw2]; exact b1.alloc (by omega) _
 have hb : Below w.heap.size w (w2.alloc (.cells ds 26)) := b2.alloc (by omega) _
 have n1 : ¬ B w.heap.size := fun h => by have := hB _ h; omega
 have n2 : ¬ B (w.heap.size + 1) := fun h => by have := hB _ h; omega
 have n3 : ¬ B (w.heap.size + 2) := fun h => by have := hB _ h; omega
 have k1 : (w2.alloc (.cells ds 26)).heap[w.heap.size]? = some (.cells cs 75 (0, 0)) := (Below.heap_alloc _ _ _ (by omega)).trans (by rw [hw2]; exact (Below.heap_alloc _ _ _ (by omega)).trans (by rw [hw1]; exact World.alloc_heap_new w _))
 have k2 : (w2.alloc (.cells ds 26)).heap[w.heap.size + 1]? = some (.cells #[.slice p n c] 35 (0, 0)) := (Below.heap_alloc _ _ _ (by omega)).trans (by rw [hw2, ← s1]; exact World.alloc_heap_new w1 _)
 have k3 : (w2.alloc (.cells ds 26)).heap[w.heap.size + 2]? = some (.cells ds 26 (0, 0)) := by rw [← s2]; exact World.alloc_heap_new w2 _
 have h1 := yhw hu hc (Ev.of_below hb) k1 n1
 have h2 := yt9 ht rfl (Ev.of_below hb) k2 n2
 have h3 := yhw hv hd (Ev.of_below hb) k3 n3
 exact ⟨_, rfl, hb, fun w2 e2 => ⟨_, _, _, rfl, h1 w2 e2, h3 w2 e2, h2 w2 e2⟩⟩
theorem yxk {B : Nat → Prop} {n : Nat} {X W W' : World} (h : Ev B X W) (k : Nw n W W') (hn : X.heap.size ≤ n) : Ev B X W' :=
 ⟨k.os.trans h.os, k.tape.trans h.tape, k.output.trans h.output, zdf h.size k.size, fun j hj hb => (k.block j (zdi hj h.size) (Or.inl (by omega))).trans (h.block j hj hb)⟩
theorem yvw {T : TypeId} {lo : Nat} {u0 : Value} (hu : u0.cells = #[u0]) : ∀ v w, FB T (IS u0) lo v w → AtE 1 (Is u0) v w := fun v w ⟨b, u, e, _, hc, hp⟩ => by
 obtain rfl : u = u0 := hp
 refine ⟨b, 0, u, e, fun j x hx => ?_, by rw [hu]; rfl, rfl⟩
 rw [zeh, yax hc]
 exact hx
theorem yyu {x : KEl} : Shp 2 (Is x.v) := fun u w h => ⟨_, h, rfl, by simp [Value.oneCell']⟩
theorem yxb {V : Nat → Prop} {K : Nat} {s : List Int} : ∀ (k : Nat) φ, (s.map (fun z => Hx V (Zv z K)))[k]? = some φ → Cel 2 φ := fun k φ h => by
 rw [zds] at h
 cases hz : s[k]? with
 | none => simp [hz] at h
 | some z =>
  simp [hz] at h
  subst h
  exact ye7 (ybf (by decide) yaj)
theorem zby {s : List Int} {K : Nat} : ∀ (k : Nat) φ, (s.map (fun z => Zv z K))[k]? = some φ → Cel 2 φ := fun k φ h => by
 rw [zds] at h
 cases hz : s[k]? with
 | none => simp [hz] at h
 | some z =>
  simp [hz] at h
  subst h
  exact ybf (by decide) yaj
theorem zcd {V : Nat → Prop} {lo k K : Nat} {s : List Int} {z : Int} {v : Value} {w : World} (hV : ∀ k, V k → k < lo) (ls : s.length = k) (h : ArN 2 (k + 1) (s.map (fun z => Hx V (Zv z K)) ++ [Hx V (Zv z K)]) lo v w) : Has V w (Vv (s ++ [z]).length (s ++ [z]) K) v := fun w' e => by
 obtain ⟨⟨p, c, e1, l1, b1, a1⟩, hlo⟩ := h
 refine ⟨p, c, by rw [e1, zdz, zf2, ls], by simp, by rw [zdz, zf2, ls]; exact b1, fun i φ hφ => ?_⟩
 have e2 : s.map (fun z => Hx V (Zv z K)) ++ [Hx V (Zv z K)] = (s ++ [z]).map (fun z => Hx V (Zv z K)) := by simp
 rw [e2] at a1
 rw [zds] at hφ
 cases hz : (s ++ [z])[i]? with
 | none => simp [hz] at hφ
 | some y =>
  simp only [hz, Option.map_some, Option.some.injEq] at hφ
  subst hφ
  obtain ⟨b, o, u, e3, h1, h2, h3⟩ := a1 i (Hx V (Zv y K)) (by rw [zds, hz]; rfl)
  refine ⟨b, o, u, e3, fun j x hx => ?_, h2, h3 w' e⟩
  have hb : lo ≤ b := hlo b o _ _ (by rw [e1, e3])
  exact yfs (h1 j x hx) (fun hv => by have := hV b hv; omega) e
theorem yqf {sz n lo : Nat} {φs : List Pr} {v : Value} {w : World} (h : ArN sz n φs lo v w) : ∃ p c, v = .slice p n c := ygy v w h.1
theorem zip1 {d : Tmp} {v : Value} {tm : Array Value} : ((#[d].zip #[v]).foldl (fun t (x : Tmp × Value) => t.setIfInBounds x.1 x.2) tm) = tm.setIfInBounds d v := by simp
def FL (kd : List Int → List Int) (m : Nat) (s : List Int) (zs : List Int) : List (List Int) := zs.flatMap (fun z => (s ++ [z]) :: nds kd m (s ++ [z]))
theorem yg8 {kd : List Int → List Int} {m : Nat} {s zs : List Int} {z : Int} : FL kd m s (zs ++ [z]) = FL kd m s zs ++ ((s ++ [z]) :: nds kd m (s ++ [z])) := by simp [FL]
theorem yxm {kd : List Int → List Int} {m : Nat} {s zs : List Int} : zs.length ≤ (FL kd m s zs).length := by
 induction zs with
 | nil => simp
 | cons z zs ih => simp only [FL, List.flatMap_cons, zdz, zeu] at ih ⊢; omega
theorem yxn {kd : List Int → List Int} {m : Nat} {s zs ys : List Int} (h : zs <+: ys) : FL kd m s zs <+: FL kd m s ys := by
 obtain ⟨r, rfl⟩ := h
 exact ⟨FL kd m s r, by simp [FL]⟩
end Go.Proofs.YtdnindaohpdblaaGreat
