import Derived.Test.YtdnindaohpdblaaGreatSetR
import Derived.Test.YtdnindaohpdblaaGreatSetY
import Derived.Deep.Slices
set_option linter.all false
namespace Go.Proofs.YtdnindaohpdblaaGreat
open Go Go.RowKit Nt
set_option maxRecDepth 20000
set_option maxHeartbeats 16000000
theorem yfh {A : Int} {k : Nat} (hk : k ≤ 70368744177664) : ∀ w u, Zv A k u w → CG 43 #[u] w (IS (.int .i64 A.sign)) := by
 rintro w u ⟨s, p, n, c, xs, rfl, h, rfl, hn⟩
 refine (yfo w s p n c xs h (by omega)).mono ?_
 rintro e w' ⟨rfl, hb⟩
 exact ⟨_, rfl, hb, rfl⟩
theorem yf0 {A B : Int} {ka kb : Nat} (hk : ka ≤ 70368744177664) (hk' : kb ≤ 70368744177664) : ∀ w u v, Zv A ka u w → Zv B kb v w → CG 76 #[u, v] w (IS (.int .i64 (A - B).sign)) := by
 rintro w u v ⟨s, p, n, c, xs, rfl, h, rfl, hn⟩ ⟨t, q, m, d, ys, rfl, h', rfl, hm⟩
 refine (yjn w s t p q n c m d xs ys h h' (by omega) (by omega)).mono ?_
 rintro e w' ⟨rfl, hb⟩
 exact ⟨_, rfl, hb, rfl⟩
def El.pr (e : El) : Pr := Zx e.s e.p e.n e.c e.xs
abbrev Vv (n : Nat) (zs : List Int) (k : Nat) : Pr := Ar 2 n (zs.map (fun z => Zv z k))
abbrev VN (n : Nat) (zs : List Int) : Nat → Pr := LF 2 n (zs.map ZN)
theorem ybp {α β : Type} {f : α → β} {l : List α} {i : Nat} {y : β} (h : (l.map f)[i]? = some y) : ∃ x, l[i]? = some x ∧ y = f x := by
 rw [zds] at h
 cases hx : l[i]? with
 | none => simp [hx] at h
 | some x => simp [hx] at h; exact ⟨x, rfl, h.symm⟩
theorem yf2 {α β : Type} (f : α → β) {l : List α} {i : Nat} {x : α} (h : l[i]? = some x) : (l.map f)[i]? = some (f x) := by rw [zds, h]; rfl
theorem fresh_vn {n : Nat} {zs : List Int} : Fresh (VN n zs) := yg9 (by decide) (fun i ψ h => by obtain ⟨z, _, rfl⟩ := ybp h; exact yaf z)
theorem ylj {sz n lo : Nat} {ψs : List (Nat → Pr)} : ∀ v w, LF sz n ψs lo v w → ∃ p c, v = .slice p n c := fun v w h => ygy v w h.1
theorem yvc {n k lo : Nat} {zs : List Int} (h : ∀ (i : Nat) z, zs[i]? = some z → (digs z.natAbs).length ≤ k) : ∀ v w, VN n zs lo v w → Vv n zs k v w :=
 zag (by simp) (fun i ψ φ h1 h2 v w hφ => by
  obtain ⟨z, hz, rfl⟩ := ybp h1
  obtain ⟨z', hz', rfl⟩ := ybp h2
  rw [hz] at hz'
  cases hz'
  exact ya0 (h i z hz) v w hφ)
theorem yro : ∀ v w, Is (.slice none 0 0) v w → Vv 0 [] 0 v w := fun v w e => by rw [show v = _ from e]; exact yvm w
theorem zas {lo : Nat} : ∀ v w, Is (.slice none 0 0) v w → VN 0 [] lo v w := fun v w e => by rw [show v = _ from e]; exact zaf w
def Dl (zs : List Int) (k : Nat) : Prop := ∀ (i : Nat) z, zs[i]? = some z → (digs z.natAbs).length ≤ k
theorem yj2 : Idx 36 1 := fun ρ o x y w b k i n c hi hx hy => by
 rw [zex]
 unfold execOp
 go_simp
theorem yv1 : Idx 65 1 := fun ρ o x y w b k i n c hi hx hy => by
 rw [zex]
 unfold execOp
 go_simp
theorem celv1 {u : Value} (h : Celv 1 u) : u.cells = #[u] ∧ u.oneCell' = true := by
 have h1 := h.of
 have h2 := h.siz
 have h3 := h.one
 have e : u.cells = #[u] := by
  apply Array.ext
  ·simp [h2]
  ·intro i hi hi'
   have : i = 0 := by omega
   subst this
   conv => rhs; rw [show (#[u] : Array Value)[0] = u from rfl, h1]
   simp [ofCells, h2]
 refine ⟨e, ?_⟩
 rw [e] at h3
 simpa using h3
theorem ybq : Ldr 35 1 := fun ρ o x w b k u hu hc hx => by
 obtain ⟨e, h1⟩ := celv1 hu
 have h2 : w.cell? ⟨b, k, none⟩ = some u := hc 0 u (by rw [e]; rfl)
 clear hc hu e
 unfold execOp
 go_simp
theorem yv3 : Ldr 3 1 := fun ρ o x w b k u hu hc hx => by
 obtain ⟨e, h1⟩ := celv1 hu
 have h2 : w.cell? ⟨b, k, none⟩ = some u := hc 0 u (by rw [e]; rfl)
 clear hc hu e
 unfold execOp
 go_simp
theorem yk5 {u : Value} (h : u.oneCell' = true) : Cel 1 (Is u) := fun v w e => by rw [show v = u from e]; exact yjv h
theorem ygz {sz n : Nat} {φs : List Pr} : Cel 1 (Ar sz n φs) := fun v w ⟨p, c, e, _⟩ => by rw [e]; exact yjv rfl
theorem ye8 {n k : Nat} {zs : List Int} : Cel 1 (Vv n zs k) := ygz
theorem yzu {sz n lo : Nat} {ψs : List (Nat → Pr)} : Cel 1 (LF sz n ψs lo) := fun v w h => ygz v w h.1
def Sng (E sz : Nat) (φ : Pr) (lo : Nat) : Pr := fun v w => ∃ g u, v = .slice (some ⟨g, 0, none⟩) 1 1 ∧ lo ≤ g ∧ w.heap[g]? = some (.cells u.cells E (0, 0)) ∧ Celv sz u ∧ φ u w
theorem yzr {E sz lo : Nat} {φ : Pr} : ∀ v w, Sng E sz φ lo v w → Src E sz 1 (CE sz [φ]) v w := by
 rintro v w ⟨g, u, rfl, h1, h2, h3, h4⟩
 refine ⟨g, 1, u.cells.toList, rfl, ⟨by simp [h3.siz], zde _, by unfold maxLen; omega⟩, by simpa using h2, fun x hx => ?_, [u], by simp [cellsOf], rfl, fun x hx => by simp at hx; rw [hx]; exact h3, fun i x φ' hx hφ => ?_⟩
 ·have := h3.one
  rw [ze2] at this
  exact this x (by simpa using hx)
 ·match i, hx, hφ with
  | 0, hx, hφ => simp at hx hφ; subst hx; subst hφ; exact h4
  | i + 1, hx, _ => simp at hx
def Bld (T E sz : Nat) : Prop := ∀ (ρ : Operand → Value) (o : Oper) (x : Operand) (w : World) (u : Value), Celv sz u → ρ x = u → (execOp ρ { o with op := .buildSlice T 1 #[(0, x)] }).run Tryz.prog w = .ok (.value (.slice (some ⟨w.heap.size, 0, none⟩) 1 1)) (w.alloc (.cells u.cells E))
theorem ymu : Bld 35 24 2 := fun ρ o x w u hu hx => by
 have e := hu.of
 rw [ofCells, if_neg (by decide)] at e
 obtain ⟨l, hl⟩ : ∃ l, u.cells = ⟨l⟩ := ⟨u.cells.toList, by simp⟩
 have hs := hu.siz
 have ho := hu.one
 rw [hl] at e hs ho ⊢
 match l, hs with
 | [y, z], _ =>
  clear hu hl
  subst e
  simp at ho
  obtain ⟨h1, h2⟩ := ho
  unfold execOp
  go_simp
theorem yi4 {ops : Array Oper} {l : List Kd} {bx : Bxs} {sl : List (Tmp × Pr)} {i : Nat} {o : Oper} {Q : Exit → Act → World → Prop} {a0 : Act} {n0 : Nat} {w0 : World} {x : Operand} {T E sz : Nat} {φ : Pr} (ho : ops[i]? = some o) (hw : Wants ops l bx sl i o) (hop : o.op = .buildSlice T 1 #[(0, x)]) (hB : Bld T E sz) (hx : Opnd ops l bx sl i x φ) (hc : Cel sz φ) (hk : kdAt l i = .val (Sng E sz φ w0.heap.size)) : Owed Tryz.prog ops Q l bx sl a0 n0 w0 i :=
 yel ho hw hk fun vs B a w c => by
  have hX := hx a0 n0 w0 vs B a w c
  have hcv := hc _ _ hX.now
  have hb : Below w.heap.size w (w.alloc (.cells (a.eval x).cells E)) := (Below.refl _ _).alloc (zde _) _
  refine ⟨.slice (some ⟨w.heap.size, 0, none⟩) 1 1, _, ?_, hb, fun w'' e'' => ?_⟩
  ·rw [← hB a.eval o x w _ hcv rfl]
   unfold execOp
   rw [hop]
  ·have ev : Ev B w w'' := ⟨e''.os.trans hb.os, e''.tape.trans hb.tape, e''.output.trans hb.output, zdf hb.size e''.size, fun k hk hn => (e''.block k (zdi hk hb.size) hn).trans (hb.block k hk)⟩
   refine ⟨w.heap.size, _, rfl, c.lo, ?_, hcv, hX w'' ev⟩
   rw [e''.block w.heap.size (zdh.1 (heap_alloc_last w _)).1 (fun hB => by have := (c.bnd _ hB).2; omega)]
   exact heap_alloc_last _ _
theorem ymv : Celv 2 (.agg #[.bool false, .slice none 0 0]) := yju (cs := #[.bool false, .slice none 0 0]) (by decide) (by simp [Value.oneCell'])
def El.sx (e : El) : Bool × List Nat := (e.s, e.xs)
section
variable {ops : Array Oper} {l : List Kd} {bx : Bxs} {sl : List (Tmp × Pr)} {i : Nat} {o : Oper} {Q : Exit → Act → World → Prop} {a0 : Act} {n0 : Nat} {w0 : World}
end
end Go.Proofs.YtdnindaohpdblaaGreat

namespace Go.Proofs.YtdnindaohpdblaaGreat
open Go.ChangeShapes Go.WideShapes Go.ChangeAt Go.RowKit Nt
set_option maxRecDepth 20000
set_option maxHeartbeats 16000000
structure Rw where
 p : Option Addr
 n : Nat
 c : Nat
 es : List El
instance : Inhabited Rw := ⟨⟨none, 0, 0, []⟩⟩
abbrev Mv (n : Nat) (zss : List (List Int)) (k : Nat) : Pr := Ar 1 n (zss.map (fun zs => Vv zs.length zs k))
abbrev MN (n : Nat) (zss : List (List Int)) : Nat → Pr := LF 1 n (zss.map (fun zs => VN zs.length zs))
theorem yt4 {n : Nat} {zss : List (List Int)} : Fresh (MN n zss) := yg9 (by decide) (fun i ψ h => by obtain ⟨z, _, rfl⟩ := ybp h; exact fresh_vn)
def Mdl (zss : List (List Int)) (k : Nat) : Prop := ∀ (i : Nat) zs, zss[i]? = some zs → Dl zs k
theorem zcr {n k lo : Nat} {zss : List (List Int)} (h : Mdl zss k) : ∀ v w, MN n zss lo v w → Mv n zss k v w :=
 zag (by simp) (fun i ψ φ h1 h2 v w hφ => by
  obtain ⟨e, he, rfl⟩ := ybp h1
  obtain ⟨z, hz, rfl⟩ := ybp h2
  rw [he] at hz
  cases hz
  exact yvc (h i e he) v w hφ)
end Go.Proofs.YtdnindaohpdblaaGreat
