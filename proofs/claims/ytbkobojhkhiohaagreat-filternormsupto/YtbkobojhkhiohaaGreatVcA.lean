import Derived.Test.YtbkobojhkhiohaaGreatSetR
import Derived.Test.YtbkobojhkhiohaaGreatSetY
import Derived.Deep.Slices
set_option linter.all false
namespace Go.Proofs.YtbkobojhkhiohaaGreat
open Go Go.RowKit Nt
set_option maxRecDepth 20000
set_option maxHeartbeats 16000000
theorem yge {A : Int} {k : Nat} (hk : k ≤ 70368744177664) : ∀ w u, Zv A k u w → CG 47 #[u] w (IS (.int .i64 A.sign)) := by
 rintro w u ⟨s, p, n, c, xs, rfl, h, rfl, hn⟩
 refine (yi5 w s p n c xs h (by omega)).mono ?_
 rintro e w' ⟨rfl, hb⟩
 exact ⟨_, rfl, hb, rfl⟩
theorem yo5 {A B : Int} {ka kb : Nat} (hk : ka ≤ 70368744177664) (hk' : kb ≤ 70368744177664) : ∀ w u v, Zv A ka u w → Zv B kb v w → CG 64 #[u, v] w (IS (.int .i64 (A - B).sign)) := by
 rintro w u v ⟨s, p, n, c, xs, rfl, h, rfl, hn⟩ ⟨t, q, m, d, ys, rfl, h', rfl, hm⟩
 refine (yqz w s t p q n c m d xs ys h h' (by omega) (by omega)).mono ?_
 rintro e w' ⟨rfl, hb⟩
 exact ⟨_, rfl, hb, rfl⟩
theorem ywm {A B : Int} {ka kb : Nat} (hk : ka ≤ 35184372088831) (hk' : kb ≤ 35184372088831) : ∀ w u v, Zv A ka u w → Zv B kb v w → CG 39 #[u, v] w (IS (.int .i64 (A - B).sign)) := by
 rintro w u v ⟨s, p, n, c, xs, rfl, h, rfl, hn⟩ ⟨t, q, m, d, ys, rfl, h', rfl, hm⟩
 refine (yz5 w s t p q n c m d xs ys h h' (by omega) (by omega)).mono ?_
 rintro e w' ⟨rfl, hb⟩
 exact ⟨_, rfl, hb, rfl⟩
def El.pr (e : El) : Pr := Zx e.s e.p e.n e.c e.xs
def El.zo (e : El) : Nat → Pr := ZO e.s e.n e.xs
abbrev Vx (n : Nat) (es : List El) : Pr := Ar 2 n (es.map El.pr)
abbrev Vv (n : Nat) (zs : List Int) (k : Nat) : Pr := Ar 2 n (zs.map (fun z => Zv z k))
abbrev VN (n : Nat) (zs : List Int) : Nat → Pr := LF 2 n (zs.map ZN)
abbrev VO (n : Nat) (es : List El) : Nat → Pr := LF 2 n (es.map El.zo)
theorem ya3 {α β : Type} {f : α → β} {l : List α} {i : Nat} {y : β} (h : (l.map f)[i]? = some y) : ∃ x, l[i]? = some x ∧ y = f x := by
 rw [zfg] at h
 cases hx : l[i]? with
 | none => simp [hx] at h
 | some x => simp [hx] at h; exact ⟨x, rfl, h.symm⟩
theorem yb6 {α β : Type} (f : α → β) {l : List α} {i : Nat} {x : α} (h : l[i]? = some x) : (l.map f)[i]? = some (f x) := by rw [zfg, h]; rfl
theorem fresh_vn {n : Nat} {zs : List Int} : Fresh (VN n zs) := yfv (by decide) (fun i ψ h => by obtain ⟨z, _, rfl⟩ := ya3 h; exact yai z)
theorem fresh_vo {n : Nat} {es : List El} : Fresh (VO n es) := yfv (by decide) (fun i ψ h => by obtain ⟨e, _, rfl⟩ := ya3 h; exact yex _ _ _)
theorem ywn {sz n lo : Nat} {ψs : List (Nat → Pr)} : ∀ v w, LF sz n ψs lo v w → ∃ p c, v = .slice p n c := fun v w h => yoj v w h.1
theorem ygh {n k : Nat} {es : List El} (h : ∀ (i : Nat) e, es[i]? = some e → e.n ≤ k) : ∀ v w, Vx n es v w → Vv n (es.map El.z) k v w :=
 ye5 (by simp) (fun i φ φ' h1 h2 v w hφ => by
  obtain ⟨e, he, rfl⟩ := ya3 h1
  obtain ⟨z, hz, rfl⟩ := ya3 h2
  rw [yb6 El.z he] at hz
  cases hz
  exact yz7 (h i e he) v w hφ)
theorem ym7 {n k lo : Nat} {es : List El} (h : ∀ (i : Nat) e, es[i]? = some e → e.n ≤ k) : ∀ v w, VO n es lo v w → Vv n (es.map El.z) k v w :=
 yyo (by simp) (fun i ψ φ h1 h2 v w hφ => by
  obtain ⟨e, he, rfl⟩ := ya3 h1
  obtain ⟨z, hz, rfl⟩ := ya3 h2
  rw [yb6 El.z he] at hz
  cases hz
  exact yz3 rfl (h i e he) v w hφ)
theorem yvy {n k lo : Nat} {zs : List Int} (h : ∀ (i : Nat) z, zs[i]? = some z → (digs z.natAbs).length ≤ k) : ∀ v w, VN n zs lo v w → Vv n zs k v w :=
 yyo (by simp) (fun i ψ φ h1 h2 v w hφ => by
  obtain ⟨z, hz, rfl⟩ := ya3 h1
  obtain ⟨z', hz', rfl⟩ := ya3 h2
  rw [hz] at hz'
  cases hz'
  exact ya4 (h i z hz) v w hφ)
theorem zb1 {lo : Nat} : ∀ v w, Is (.slice none 0 0) v w → VN 0 [] lo v w := fun v w e => by rw [show v = _ from e]; exact zbo w
theorem zbv {w : World} {p : Option Addr} {n c : Nat} {es : List El} (h : Ls w p n c es) : Vx n es (.slice p n c) w :=
 ⟨p, c, rfl, by simp [h.len], ⟨h.cap, h.max, h.nil⟩, fun i φ hφ => by
  obtain ⟨e, he, rfl⟩ := ya3 hφ
  obtain ⟨b, o, e1, h1, h2, h3⟩ := h.lie i e he
  refine ⟨b, o, .agg #[.bool e.s, .slice e.p e.n e.c], e1, fun j x hx => ?_, rfl, rfl, h3⟩
  match j, hx with
  | 0, hx => simp [Value.cells] at hx; subst hx; exact h1
  | 1, hx => simp [Value.cells] at hx; subst hx; exact h2
  | j + 2, hx => simp [Value.cells] at hx⟩
theorem yyu {w : World} {p : Option Addr} {n c : Nat} {es : List El} (h : Ls w p n c es) : Hs w (Vx n es) (.slice p n c) := fun w' e => zbv (yyt h e)
def Dl (zs : List Int) (k : Nat) : Prop := ∀ (i : Nat) z, zs[i]? = some z → (digs z.natAbs).length ≤ k
theorem yey : Idx 23 1 := fun ρ o x y w b k i n c hi hx hy => by
 rw [zgf]
 unfold execOp
 go_simp
theorem celv1 {u : Value} (h : Celv 1 u) : u.cells = #[u] ∧ u.oneCell' = true := by
 have h1 := h.of
 have h2 := h.siz
 have h3 := h.one
 have e : u.cells = #[u] := by
  apply Array.ext
  ·simp [h2]
  ·intro i hi hi'
   have : i = 0 := by omega
   subst this
   conv => rhs; rw [show (#[u] : Array Value)[0] = u from rfl, h1]
   simp [ofCells, h2]
 refine ⟨e, ?_⟩
 rw [e] at h3
 simpa using h3
theorem yb4 : Ldr 22 1 := fun ρ o x w b k u hu hc hx => by
 obtain ⟨e, h1⟩ := celv1 hu
 have h2 : w.cell? ⟨b, k, none⟩ = some u := hc 0 u (by rw [e]; rfl)
 clear hc hu e
 unfold execOp
 go_simp
theorem ylv {sz n : Nat} {φs : List Pr} : Cel 1 (Ar sz n φs) := fun v w ⟨p, c, e, _⟩ => by rw [e]; exact yop rfl
theorem zak {n : Nat} {es : List El} : Cel 1 (Vx n es) := ylv
theorem yeb {n k : Nat} {zs : List Int} : Cel 1 (Vv n zs k) := ylv
theorem zai {sz n lo : Nat} {ψs : List (Nat → Pr)} : Cel 1 (LF sz n ψs lo) := fun v w h => ylv v w h.1
theorem zaj {n lo : Nat} {es : List El} : Cel 1 (VO n es lo) := zai
def Sng (E sz : Nat) (φ : Pr) (lo : Nat) : Pr := fun v w => ∃ g u, v = .slice (some ⟨g, 0, none⟩) 1 1 ∧ lo ≤ g ∧ w.heap[g]? = some (.cells u.cells E (0, 0)) ∧ Celv sz u ∧ φ u w
theorem ylt {E sz lo : Nat} {φ : Pr} : ∀ v w, Sng E sz φ lo v w → Src E sz 1 (CE sz [φ]) v w := by
 rintro v w ⟨g, u, rfl, h1, h2, h3, h4⟩
 refine ⟨g, 1, u.cells.toList, rfl, ⟨by simp [h3.siz], ze5 _, by unfold maxLen; omega⟩, by simpa using h2, fun x hx => ?_, [u], by simp [cellsOf], rfl, fun x hx => by simp at hx; rw [hx]; exact h3, fun i x φ' hx hφ => ?_⟩
 ·have := h3.one
  rw [zgt] at this
  exact this x (by simpa using hx)
 ·match i, hx, hφ with
  | 0, hx, hφ => simp at hx hφ; subst hx; subst hφ; exact h4
  | i + 1, hx, _ => simp at hx
def Bld (T E sz : Nat) : Prop := ∀ (ρ : Operand → Value) (o : Oper) (x : Operand) (w : World) (u : Value), Celv sz u → ρ x = u → (execOp ρ { o with op := .buildSlice T 1 #[(0, x)] }).run Tryz.prog w = .ok (.value (.slice (some ⟨w.heap.size, 0, none⟩) 1 1)) (w.alloc (.cells u.cells E))
theorem ynh : Bld 22 29 2 := fun ρ o x w u hu hx => by
 have e := hu.of
 rw [ofCells, if_neg (by decide)] at e
 obtain ⟨l, hl⟩ : ∃ l, u.cells = ⟨l⟩ := ⟨u.cells.toList, by simp⟩
 have hs := hu.siz
 have ho := hu.one
 rw [hl] at e hs ho ⊢
 match l, hs with
 | [y, z], _ =>
  clear hu hl
  subst e
  simp at ho
  obtain ⟨h1, h2⟩ := ho
  unfold execOp
  go_simp
theorem yup : Bld 23 22 1 := fun ρ o x w u hu hx => by
 obtain ⟨e, h1⟩ := celv1 hu
 rw [e]
 clear hu e
 cases u <;> first | (simp [Value.oneCell'] at h1; done) | (unfold execOp; go_simp; done) | (unfold execOp; go_simp; simp [run_store, Value.oneCell']; done)
theorem yhi {ops : Array Oper} {l : List Kd} {bx : Bxs} {sl : List (Tmp × Pr)} {i : Nat} {o : Oper} {Q : Exit → Act → World → Prop} {a0 : Act} {n0 : Nat} {w0 : World} {x : Operand} {T E sz : Nat} {φ : Pr} (ho : ops[i]? = some o) (hw : Wants ops l bx sl i o) (hop : o.op = .buildSlice T 1 #[(0, x)]) (hB : Bld T E sz) (hx : Opnd ops l bx sl i x φ) (hc : Cel sz φ) (hk : kdAt l i = .val (Sng E sz φ w0.heap.size)) : Owed Tryz.prog ops Q l bx sl a0 n0 w0 i :=
 ykv ho hw hk fun vs B a w c => by
  have hX := hx a0 n0 w0 vs B a w c
  have hcv := hc _ _ hX.now
  have hb : Below w.heap.size w (w.alloc (.cells (a.eval x).cells E)) := (Below.refl _ _).alloc (ze5 _) _
  refine ⟨.slice (some ⟨w.heap.size, 0, none⟩) 1 1, _, ?_, hb, fun w'' e'' => ?_⟩
  ·rw [← hB a.eval o x w _ hcv rfl]
   unfold execOp
   rw [hop]
  ·have ev : Ev B w w'' := ⟨e''.os.trans hb.os, e''.tape.trans hb.tape, e''.output.trans hb.output, ze6 hb.size e''.size, fun k hk hn => (e''.block k (zfd hk hb.size) hn).trans (hb.block k hk)⟩
   refine ⟨w.heap.size, _, rfl, c.lo, ?_, hcv, hX w'' ev⟩
   rw [e''.block w.heap.size (zfi.1 (heap_alloc_last w _)).1 (fun hB => by have := (c.bnd _ hB).2; omega)]
   exact heap_alloc_last _ _
theorem infoRow : (Tryz.prog.info? 22).map (fun i => (i.zero, i.size, i.bytes)) = some (some (.slice none 0 0), 1, 24) := by kernel_rfl
theorem yrr : EInf 22 1 24 := by
 obtain ⟨i0, hi, hz0, hz1, hz2⟩ := info_parts infoRow
 exact ⟨⟨i0, _, hi, hz0, hz1, hz2, rfl⟩, by decide⟩
theorem yni : Celv 2 (.agg #[.bool false, .slice none 0 0]) := ykc (cs := #[.bool false, .slice none 0 0]) (by decide) (by simp [Value.oneCell'])
def Nmx (s : Bool) (xs : List Nat) : Pr := fun v w => ∃ p n c, v = .agg #[.bool s, .slice p n c] ∧ Sl w p n c xs
theorem h_eq {s : Bool} {xs : List Nat} : ∀ w u v, Nmx s xs u w → Nmx s xs v w → CG 15 #[u, v] w (IS (.bool true)) := by
 rintro w u v ⟨p, n, c, rfl, h⟩ ⟨p', n', c', rfl, h'⟩
 refine (eq_c w _ p p' _ c _ c' _ h h').mono ?_
 rintro e w' ⟨rfl, hb⟩
 exact ⟨_, rfl, hb, rfl⟩
theorem yli {s : Bool} {xs : List Nat} : Shp 2 (Nmx s xs) := fun u w ⟨p, n, c, e, _⟩ => ⟨_, e, rfl, by simp [Value.oneCell']⟩
def El.sx (e : El) : Bool × List Nat := (e.s, e.xs)
section
variable {ops : Array Oper} {l : List Kd} {bx : Bxs} {sl : List (Tmp × Pr)} {i : Nat} {o : Oper} {Q : Exit → Act → World → Prop} {a0 : Act} {n0 : Nat} {w0 : World}
end
end Go.Proofs.YtbkobojhkhiohaaGreat

namespace Go.Proofs.YtbkobojhkhiohaaGreat
open Go.ChangeShapes Go.WideShapes Go.ChangeAt Go.RowKit Nt
set_option maxRecDepth 20000
set_option maxHeartbeats 16000000
structure Rw where
 p : Option Addr
 n : Nat
 c : Nat
 es : List El
instance : Inhabited Rw := ⟨⟨none, 0, 0, []⟩⟩
structure Ms (w : World) (p : Option Addr) (n c : Nat) (rs : List Rw) : Prop where
 len : rs.length = n
 cap : n ≤ c
 max : c ≤ maxLen
 nil : p = none → c = 0
 lie : ∀ i r, rs[i]? = some r → ∃ b o, p = some ⟨b, o, none⟩ ∧ w.cell? ⟨b, o + i, none⟩ = some (.slice r.p r.n r.c) ∧ Ls w r.p r.n r.c r.es
def ReadsM {H : Type} (d : DataW H) (c : Nat) (rs : List Rw) : Prop :=
 (d = .nil ∧ c = 0) ∨ ∃ ds sp : List (DataW H), d = .slice ds sp ∧ c = ds.length + sp.length ∧ ∀ (i : Nat) (r : Rw), rs[i]? = some r → ∃ d1, ds[i]? = some d1 ∧ ReadsL d1 r.c r.es
theorem yi8 {H : Type} {enc : TypeId × Value → H} {W : World} {v : Value} {y : DataW H × List MemPlace} {fuel : Nat}
  (hf : DataW.trod enc Tryz.prog W 0 (fun _ => true) true fuel 22 [v] = some y) :
  ∃ a n c es, v = .slice a n c ∧ Ls W a n c es ∧ ReadsL y.1 c es := by
 rcases Go.Deep.open_slice_pairs Tryz.underlying22 Tryz.underlying29 (by kernel_rfl) rfl rfl (by kernel_rfl) (by kernel_rfl) hf with ⟨hcs, hx⟩ | ⟨x, l, c', m, k, V0, V1, D0, D1, P0, P1, hcs, _, hl, hm, hmm, hx, hall⟩
 ·simp only [List.cons.injEq, and_true] at hcs
  subst hcs
  exact ⟨_, _, _, [], rfl, Ls.none W, Or.inl ⟨by rw [hx], rfl⟩⟩
 ·simp only [List.cons.injEq, and_true] at hcs
  subst hcs
  simp only [if_true] at hmm
  subst hmm
  have each : ∀ i, ∃ e : El, i < m → W.cell? (x.add (i * 2)) = some (.bool e.s) ∧ W.cell? (x.add (i * 2 + 1)) = some (.slice e.p e.n e.c) ∧ Sl W e.p e.n e.c e.xs ∧ D0 i = .lit (.bool e.s) ∧ Reads (D1 i) e.c := by
   intro i
   by_cases hi : i < m
   ·obtain ⟨h1, h2, h3, h4⟩ := hall i hi
    obtain ⟨b, hb, e0⟩ := DataW.trod_bool Tryz.underlying4 h3
    simp at hb
    obtain ⟨a', n', c'', xs', e1, hs, hr⟩ := yh6 h4
    refine ⟨⟨b, a', n', c'', xs'⟩, fun _ => ⟨by rw [h1, hb], by rw [h2, e1], hs, ?_, hr⟩⟩
    have := congrArg Prod.fst e0
    simpa using this
   ·exact ⟨default, fun h => absurd h hi⟩
  obtain ⟨E, hch'⟩ : ∃ E : Nat → El, ∀ i, i < m → W.cell? (x.add (i * 2)) = some (.bool (E i).s) ∧ W.cell? (x.add (i * 2 + 1)) = some (.slice (E i).p (E i).n (E i).c) ∧ Sl W (E i).p (E i).n (E i).c (E i).xs ∧ D0 i = .lit (.bool (E i).s) ∧ Reads (D1 i) (E i).c := ⟨fun i => Classical.choose (each i), fun i => zg0 (each i)⟩
  refine ⟨_, _, _, (List.range l).map E, rfl, ⟨by simp, hl, hm, (fun e => by cases e), ?_⟩, Or.inr ⟨_, _, by rw [hx], by simp; omega, ?_⟩⟩
  ·intro i e he
   have hi : i < l := by
    have := (zfa.1 he).1
    simpa using this
   have he' : e = E i := by
    rw [zfg, zf0 hi] at he
    simpa using he.symm
   subst he'
   obtain ⟨h1, h2, h3, _, _⟩ := hch' i (by omega)
   have hs := yfm (hch' 0 (by omega)).1
   obtain ⟨b, o, sp⟩ := x
   simp [Addr.add] at hs
   subst hs
   refine ⟨b, o, rfl, ?_, ?_, h3⟩
   ·rw [← h1, yb8, ze8]
   ·rw [← h2, yb8, ze8 i 2]
    rfl
  ·intro i e he
   have hi : i < l := by
    have := (zfa.1 he).1
    simpa using this
   have he' : e = E i := by
    rw [zfg, zf0 hi] at he
    simpa using he.symm
   subst he'
   obtain ⟨_, _, _, h4, h5⟩ := hch' i (by omega)
   exact ⟨D1 i, by rw [zfg, zf0 hi, ← h4]; rfl, h5⟩
abbrev Mx (n : Nat) (ess : List (List El)) : Pr := Ar 1 n (ess.map (fun es => Vx es.length es))
abbrev Mv (n : Nat) (zss : List (List Int)) (k : Nat) : Pr := Ar 1 n (zss.map (fun zs => Vv zs.length zs k))
abbrev MO (n : Nat) (ess : List (List El)) : Nat → Pr := LF 1 n (ess.map (fun es => VO es.length es))
theorem fresh_mo {n : Nat} {ess : List (List El)} : Fresh (MO n ess) := yfv (by decide) (fun i ψ h => by obtain ⟨e, _, rfl⟩ := ya3 h; exact fresh_vo)
theorem zec {w : World} {p : Option Addr} {n c : Nat} {rs : List Rw} (h : Ms w p n c rs) : Mx n (rs.map Rw.es) (.slice p n c) w :=
 ⟨p, c, rfl, by simp [h.len], ⟨h.cap, h.max, h.nil⟩, fun i φ hφ => by
  obtain ⟨e, he, rfl⟩ := ya3 hφ
  obtain ⟨r, hr, rfl⟩ := ya3 he
  obtain ⟨b, o, e1, h1, h3⟩ := h.lie i r hr
  refine ⟨b, o, .slice r.p r.n r.c, e1, fun j x hx => ?_, rfl, ?_⟩
  ·match j, hx with
   | 0, hx => simp [Value.cells] at hx; subst hx; rw [zgf]; exact h1
   | j + 1, hx => simp [Value.cells] at hx
  ·have := zbv h3
   rw [h3.len]
   exact this⟩
theorem zed {w w' : World} {p : Option Addr} {n c : Nat} {rs : List Rw} (h : Ms w p n c rs) (e : Ev (fun _ => False) w w') : Ms w' p n c rs :=
 ⟨h.len, h.cap, h.max, h.nil, fun i x hx => by
  obtain ⟨b, o, e1, h1, h2⟩ := h.lie i x hx
  exact ⟨b, o, e1, yeu h1 e, yyt h2 e⟩⟩
theorem zbx {w : World} {p : Option Addr} {n c : Nat} {rs : List Rw} (h : Ms w p n c rs) : Hs w (Mx n (rs.map Rw.es)) (.slice p n c) := fun w' e => zec (zed h e)
def Me (ess : List (List El)) (f : El → Nat) (k : Nat) : Prop := ∀ (i : Nat) es, ess[i]? = some es → ∀ (j : Nat) e, es[j]? = some e → f e ≤ k
def Ml {α : Type} (ess : List (List α)) (k : Nat) : Prop := ∀ (i : Nat) es, ess[i]? = some es → es.length ≤ k
abbrev zz (ess : List (List El)) : List (List Int) := ess.map (fun es => es.map El.z)
theorem ynq {n k : Nat} {ess : List (List El)} (h : Me ess El.n k) : ∀ v w, Mx n ess v w → Mv n (zz ess) k v w :=
 ye5 (by simp) (fun i φ φ' h1 h2 v w hφ => by
  obtain ⟨e, he, rfl⟩ := ya3 h1
  obtain ⟨z, hz, rfl⟩ := ya3 h2
  rw [yb6 (fun es : List El => es.map El.z) he] at hz
  cases hz
  rw [List.length_map]
  exact ygh (h i e he) v w hφ)
theorem zeb {n k lo : Nat} {ess : List (List El)} (h : Me ess El.n k) : ∀ v w, MO n ess lo v w → Mv n (zz ess) k v w :=
 yyo (by simp) (fun i ψ φ h1 h2 v w hφ => by
  obtain ⟨e, he, rfl⟩ := ya3 h1
  obtain ⟨z, hz, rfl⟩ := ya3 h2
  rw [yb6 (fun es : List El => es.map El.z) he] at hz
  cases hz
  rw [List.length_map]
  exact ym7 (h i e he) v w hφ)
def Mdl (zss : List (List Int)) (k : Nat) : Prop := ∀ (i : Nat) zs, zss[i]? = some zs → Dl zs k
theorem zb0 {n k : Nat} {zss : List (List Int)} {u : Value} {w : World} (h : Mv n zss k u w) {i : Nat} {zs : List Int} (hz : zss[i]? = some zs) : ∃ r, Vv zs.length zs k r w := by
 obtain ⟨p, c, _, _, _, ha⟩ := h
 obtain ⟨b, o, x, _, _, _, hx⟩ := ha i _ (yb6 (fun zs : List Int => Vv zs.length zs k) hz)
 exact ⟨x, hx⟩
theorem ms_n {w : World} {p : Option Addr} {n c k : Nat} {rs : List Rw} (h : Ms w p n c rs) (hC : ∀ (i : Nat) r, rs[i]? = some r → r.c ≤ k ∧ ∀ (j : Nat) e, r.es[j]? = some e → e.c ≤ k) : Me (rs.map Rw.es) El.n k ∧ Me (rs.map Rw.es) El.c k ∧ Ml (rs.map Rw.es) k := by
 refine ⟨fun i es he j e hj => ?_, fun i es he j e hj => ?_, fun i es he => ?_⟩
 ·obtain ⟨r, hr, rfl⟩ := ya3 he
  obtain ⟨b, o, _, _, L⟩ := h.lie i r hr
  obtain ⟨b, o, _, _, _, hs⟩ := L.lie j e hj
  have := hs.cap
  have := (hC i r hr).2 j e hj
  omega
 ·obtain ⟨r, hr, rfl⟩ := ya3 he
  exact (hC i r hr).2 j e hj
 ·obtain ⟨r, hr, rfl⟩ := ya3 he
  obtain ⟨b, o, _, _, L⟩ := h.lie i r hr
  have := L.cap
  have := (hC i r hr).1
  rw [L.len]
  omega
end Go.Proofs.YtbkobojhkhiohaaGreat
