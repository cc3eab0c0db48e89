import Derived.Test.YtgalppimdmjdcabGreatDoorSetQ
import Derived.Test.YtgalppimdmjdcabGreatDoorSetF
import Derived.Test.YtgalppimdmjdcabGreatDoorSetP
import Derived.Test.YtgalppimdmjdcabGreatDoorSetX
import Derived.Test.YtgalppimdmjdcabGreatDoorSetZ
import Derived.Test.YtgalppimdmjdcabGreatDoorPower
import Derived.Test.YtgalppimdmjdcabGreatDoorSetU
/-
  The calls of nat and zint, and of the laws, in the form that the logic of statements takes.
-/
namespace Go.Proofs.YtgalppimdmjdcabGreatDoor
open Go Go.RowKit Nt
set_option linter.unusedSimpArgs false
set_option linter.unusedVariables false
set_option maxRecDepth 20000

theorem dl_mul {a b : Int} {k l : Nat} (ha : (digs a.natAbs).length ≤ k) (hb : (digs b.natAbs).length ≤ l) : (digs (a * b).natAbs).length ≤ k + l := by rw [Int.natAbs_mul]; exact digs_mul_len ha hb
theorem res_nn {w w' : World} {r : Option Addr} {c m : Nat} (h : Res w w' r c m) : NN m w.heap.size (.slice r (digs m).length c) w' := ⟨r, c, rfl, h.sl, fun b o e => (h.own b o e).2.1⟩
theorem ans_nn {w w' : World} {r : Option Addr} {c m : Nat} (h : Ans w w' r c m) : NN m w.heap.size (.slice r (digs m).length c) w' := ⟨r, c, rfl, h.sl, h.fresh⟩
theorem nm_zn {w : World} {b : Bool} {L : Nat} {D : List Nat} {z : Int} {r : Option Addr} {c lo : Nat} (h : Nm b L D z) (hs : Sl w r L c D) (hf : ∀ b o, r = some ⟨b, o, none⟩ → lo ≤ b) : ZN z lo (.agg #[.bool b, .slice r L c]) w := by
  obtain ⟨rfl, rfl, rfl⟩ := h
  exact ⟨r, c, rfl, hs, hf⟩

/-- A row with these limbs, noughts and all, in new memory. -/
def NR (xs : List Nat) : Nat → Pr := fun lo v w => ∃ r c, v = .slice r xs.length c ∧ Sl w r xs.length c xs ∧ ∀ b o, r = some ⟨b, o, none⟩ → lo ≤ b
theorem fresh_nr (xs : List Nat) : Fresh (NR xs) :=
  ⟨fun lo lo' v w hl ⟨r, c, e, hs, hf⟩ => ⟨r, c, e, hs, fun b o h => Nat.le_trans hl (hf b o h)⟩,
   fun lo v w w' B hB ⟨r, c, e, hs, hf⟩ ev => ⟨r, c, e, sl_ev hs (fun b o e2 _ hb => by have := hB b hb; have := hf b o e2; omega) ev, hf⟩⟩
theorem nr_nv {xs : List Nat} {lo k m : Nat} (hm : val xs = m) (hk : xs.length ≤ k) : ∀ v w, NR xs lo v w → Nv m k v w := fun v w ⟨r, c, e, h, _⟩ => ⟨_, _, _, _, e, h, hm, hk⟩
theorem bs_nr {k lo : Nat} : ∀ v w, BS k lo v w → NR [k] lo v w := fun v w ⟨h0, ⟨g, c, ys, e1, e2, e3, e4, e5⟩, h2⟩ => by
  obtain rfl : ys = U [k] := e5
  refine ⟨some ⟨g, 0, none⟩, c, e1, ?_, fun b o e => ?_⟩
  · exact ⟨rfl, e2.2.1, e2.2.2, (fun e => by cases e), Ok.cons h0 Ok.nil, Blk.limbs e3⟩
  · rw [e1] at h2
    simp only [Option.some.injEq, Addr.mk.injEq] at e
    rw [← e.1]
    exact h2 g rfl

theorem row_nr {lo n : Nat} {xs : List Nat} (ho : Ok xs) : ∀ v w ys, World.ownsRow w lo 64 1 v n ys → EqL (U xs) ys w → NR xs lo v w := fun v w ys h e => by
  obtain rfl : ys = U xs := e
  have hl : xs.length = n := by have := h.1; rw [U_length] at this; omega
  subst hl
  have hw : Own w lo v xs := h
  obtain ⟨p, c, rfl, hs⟩ := hw.sl ho
  refine ⟨p, c, rfl, hs, fun b o e => ?_⟩
  subst e
  exact (World.ownsRow.lt h b rfl).1

/-! nat. -/
theorem g_trim {p : Option Addr} {n c : Nat} {xs : List Nat} : Makes1 68 (Nx p n c xs) (Nx p (digs (val xs)).length c (digs (val xs))) := by
  rintro w u ⟨rfl, h⟩
  refine (trim_s w p n c _ xs rfl h).mono ?_
  rintro e w' ⟨rfl, rfl⟩
  exact ⟨_, rfl, Below.refl _ _, fun W ⟨_, h2⟩ => ⟨rfl, h2.digs⟩⟩
theorem g_bits {x k : Nat} (hk : k ≤ 288230376151711743) : ∀ w u, Nv x k u w → Calls Tryz.prog 49 #[u] w (Gives (IS (.int .i64 (Go.bitLen x : Nat))) w) := by
  rintro w u ⟨p, n, c, xs, rfl, h, rfl, hn⟩
  refine (bits_c w p n c xs h (by omega)).mono ?_
  rintro e w' ⟨rfl, rfl⟩
  exact ⟨_, rfl, Below.refl _ _, rfl⟩
theorem g_down {x k z : Nat} (hk : k ≤ 70368744177664) (hz : z ≤ 9223372036854775807) : ∀ w u v, Nv x k u w → Is (.int .i64 (z : Nat)) v w → Calls Tryz.prog 67 #[u, v] w (Gives (NN (x / 2 ^ z)) w) := by
  rintro w u v ⟨p, n, c, xs, rfl, h, rfl, hn⟩ hv
  obtain rfl : v = _ := hv
  have P := down_c w p n c xs (z : Int) (z / 32) (z % 32) h (by omega) (by omega) (by omega) (by omega)
  rw [show 32 * (z / 32) + z % 32 = z from by omega] at P
  refine P.mono ?_
  rintro e w' ⟨r, cr, rfl, R⟩
  exact ⟨_, rfl, R.below, res_nn R⟩
theorem g_mul {x y ka kb : Nat} (hk : ka + kb ≤ 70368744177664) : ∀ w u v, Nv x ka u w → Nv y kb v w → Calls Tryz.prog 64 #[u, v] w (Gives (NN (x * y)) w) := by
  rintro w u v ⟨p, n, c, xs, rfl, h, rfl, hn⟩ ⟨q, m, d, ys, rfl, h', rfl, hm⟩
  refine (mul_c w p q n c m d xs ys h h' (by omega)).mono ?_
  rintro e w' ⟨r, cr, rfl, R⟩
  exact ⟨_, rfl, R.below, res_nn R⟩
/-! zint. -/
theorem g_signed {s : Bool} {m lo : Nat} : Makes2 39 (Is (.bool s)) (NN m lo) (ZN (sg s m) lo) := by
  rintro w u v hu ⟨r, c, rfl, hs, hf⟩
  obtain rfl : u = _ := hu
  refine (signed_c w s r _ c (Nat.le_trans hs.cap hs.max)).mono ?_
  rintro e w' ⟨rfl, hb⟩
  refine ⟨_, rfl, hb, fun W _ h2 => ?_⟩
  obtain ⟨r', c', e', hs', hf'⟩ := h2
  simp only [Value.slice.injEq] at e'
  obtain ⟨rfl, _, rfl⟩ := e'
  exact ⟨r, c, by rw [← sg_ng, sg_abs], by rw [sg_abs]; exact hs', hf'⟩
theorem g_zof (n : Int) (h1 : -9223372036854775808 ≤ n) (h2 : n < 9223372036854775808) : ∀ w u, Is (.int .i64 n) u w → Calls Tryz.prog 16 #[u] w (Gives (ZN n) w) := fun w u e => by
  obtain rfl : u = _ := e
  refine (zof_c w n h1 h2).mono ?_
  rintro e w' ⟨r, cr, rfl, Z⟩
  exact za_gives Z
end Go.Proofs.YtgalppimdmjdcabGreatDoor

/-
  The document's power of two, in new memory.
-/
namespace Go.Proofs.YtgalppimdmjdcabGreatDoor
open Go Go.RowKit Nt
set_option linter.unusedSimpArgs false
set_option linter.unusedVariables false
set_option maxRecDepth 20000

set_option maxHeartbeats 4000000 in
theorem rtwo_f (w : World) (x : Nat) (hx : x ≤ 562949953421312) :
    Calls Tryz.prog 54 #[.int .i64 x] w (Gives (NR (List.replicate (x / 32) 0 ++ [2 ^ (x % 32)])) w) := by
  obtain ⟨skip, hskip⟩ : ∃ skip, x / 32 = skip := ⟨_, rfl⟩
  obtain ⟨s, hs⟩ : ∃ s, x % 32 = s := ⟨_, rfl⟩
  obtain ⟨P, hP⟩ : ∃ P, 2 ^ s = P := ⟨_, rfl⟩
  have hsb : s < 32 := by omega
  have hPi : (2 : Int) ^ s = (P : Int) := by rw [← hP]; simp
  have hP1 : P ≤ 2147483648 := by rw [← hP]; exact Nat.pow_le_pow_right (n := 2) (by omega) (show s ≤ 31 by omega)
  have hq : (x : Int) / 32 = (skip : Int) := by omega
  have hr : (x : Int) % 32 = (s : Int) := by omega
  have hsk : skip ≤ 17592186044416 := by omega
  rw [hskip, hs, hP]
  clear hskip hs hP
  go_enter Tryz.func54, Tryz.ntmps54
  go_wp2_with fail
  go_loopw [3, 4] (fun v i wr => ∃ k : Nat, k ≤ skip ∧ i = .int .i64 k ∧ Hid (Own wr w.heap.size v (List.replicate k 0) ∧ Below w.heap.size w wr)) (fun _ i _ => skip - (intOf i).toNat)
  case atStart => exact ⟨0, Nat.zero_le _, rfl, Own.nil _ _, Below.refl _ _⟩
  case round =>
    obtain ⟨k, hk, rfl, HK⟩ := hrel
    by_cases hlt : k < skip
    · go_wp2_with (at_builtin; refine append_u32 _ rfl (.tmp 11) (.tmp 12) rfl w.heap.size _ (List.replicate k 0) rfl (HK.out.1.alloc _) ⟨wr.heap.size, 0, none⟩ 1 1 [0] rfl rfl (limbs_lit wr 0 rfl) (by simp; omega) (by have := HK.out.2.size; simp; omega) ?_; intro v' w2 hown' hbel; have HN := hid hown'; have HNB := hid ((HK.out.2.alloc HK.out.2.size _).trans hbel); clear hown' hbel)
      go_roundw
      case rel => exact ⟨k + 1, by omega, by go_num, by rw [List.replicate_succ']; exact HN.out, HNB.out⟩
      case measure => simp [intOf]; omega
    · have hks : k = skip := by omega
      subst hks
      go_wp2_with (at_builtin; refine append_u32 _ rfl (.tmp 14) (.tmp 19) rfl w.heap.size _ (List.replicate k 0) rfl (HK.out.1.alloc _) ⟨wr.heap.size, 0, none⟩ 1 1 [P] rfl rfl (limbs_lit wr P (by first | rfl | omega | (simp [IntKind.wrap_u32]; omega))) (by simp; omega) (by have := HK.out.2.size; simp; omega) ?_; intro v' w2 hown' hbel; have HOWN := hid hown'; have HNB := hid ((HK.out.2.alloc HK.out.2.size _).trans hbel); clear hown' hbel)
      go_ret
      exact ⟨_, rfl, HNB.out, row_nr ((Ok.replicate k).snoc (by omega)) _ _ _ HOWN.out rfl⟩

theorem two_row (x : Nat) : val (List.replicate (x / 32) 0 ++ [2 ^ (x % 32)]) = 2 ^ x := by
  rw [val_append, val_replicate, List.length_replicate, val_one, Nat.zero_add, show (4294967296 : Nat) = 2 ^ 32 from rfl, ← Nat.pow_mul, ← Nat.pow_add]
  congr 1
  omega
theorem bs_nv {k lo : Nat} : ∀ v w, BS k lo v w → Nv k 1 v w := fun v w h => nr_nv (val_one k) (Nat.le_refl _) v w (bs_nr v w h)
theorem up_list (K M : Nat) : (List.replicate (K + (digs M).length) 0).take K ++ digs M ++ (List.replicate (K + (digs M).length) 0).drop (K + (digs M).length) = List.replicate K 0 ++ digs M := by
  rw [List.drop_eq_nil_of_le (by simp), List.append_nil, List.take_replicate, Nat.min_eq_left (by omega)]
theorem up_ok {K M : Nat} : Ok ((List.replicate (K + (digs M).length) 0).take K ++ digs M ++ (List.replicate (K + (digs M).length) 0).drop (K + (digs M).length)) := by
  rw [up_list]
  intro x hx
  rcases List.mem_append.1 hx with h | h
  · have := (List.mem_replicate.1 h).2
    omega
  · exact ok_digs M x h
theorem up_digs {K M : Nat} (hM : M ≠ 0) : List.replicate K 0 ++ digs M = digs (M * 2 ^ (32 * K)) := by
  refine digs_eq ?_ ?_ ?_
  · rw [← up_list]; exact up_ok
  · right
    rcases top_digs M with h | h
    · exact absurd (by rw [← val_digs M, h]; rfl) hM
    · have hl : (digs M).length ≠ 0 := fun e => hM ((digs_length_zero M).1 e)
      rw [List.getD_eq_getElem?_getD] at h ⊢
      rw [List.length_append, List.length_replicate, List.getElem?_append_right (by rw [List.length_replicate]; omega), List.length_replicate, show K + (digs M).length - 1 - K = (digs M).length - 1 by omega]
      exact h
  · rw [val_append, val_replicate, List.length_replicate, val_digs, show (4294967296 : Nat) = 2 ^ 32 from rfl, ← Nat.pow_mul, Nat.zero_add, Nat.mul_comm]
theorem digs_nx {p : Option Addr} {k c : Nat} {m j : Nat} (hj : k ≤ j) : ∀ v w, Nx p k c (digs m) v w → Nv m j v w := fun v w ⟨e, h⟩ => ⟨p, k, c, _, e, h, val_digs m, hj⟩
theorem Gives.two {φ φ' ψ : Nat → Pr} {w : World} {f : FuncId} {args : Array Value} (h : Calls Tryz.prog f args w (Gives (TWO φ ψ) w)) (k : ∀ v w', φ w.heap.size v w' → φ' w.heap.size v w') : Calls Tryz.prog f args w (Gives (TWO φ' ψ) w) := by
  refine h.mono ?_
  rintro e w' ⟨v, rfl, hb, x, y, rfl, h1, h2⟩
  exact ⟨_, rfl, hb, x, y, rfl, k _ _ h1, h2⟩
theorem zero_nn {lo : Nat} : ∀ v w, IS (.slice none 0 0) lo v w → NN 0 lo v w := fun v w e => ⟨none, 0, e, Sl.none w, fun b o h => nomatch h⟩
/-- A magnitude in new memory, of so many limbs at most. -/
def NW (m k : Nat) : Nat → Pr := fun lo v w => ∃ xs, NR xs lo v w ∧ val xs = m ∧ xs.length ≤ k
theorem fresh_nw (m k : Nat) : Fresh (NW m k) :=
  ⟨fun lo lo' v w hl ⟨xs, h, e⟩ => ⟨xs, (fresh_nr xs).1 lo lo' v w hl h, e⟩, fun lo v w w' B hB ⟨xs, h, e⟩ ev => ⟨xs, (fresh_nr xs).2 lo v w w' B hB h ev, e⟩⟩
theorem nw_nv {m k lo : Nat} : ∀ v w, NW m k lo v w → Nv m k v w := fun v w ⟨xs, h, e, hk⟩ => nr_nv e hk v w h
theorem g_rtwo1 {x : Nat} (hx : x ≤ 562949953421312) : ∀ w u, Is (.int .i64 (x : Nat)) u w → Calls Tryz.prog 54 #[u] w (Gives (NW (2 ^ x) (x / 32 + 1)) w) := by
  rintro w u e
  obtain rfl : u = _ := e
  refine (rtwo_f w x hx).mono ?_
  rintro e w' ⟨v, rfl, hb, h⟩
  exact ⟨v, rfl, hb, _, h, two_row x, by simp⟩
theorem run_shl1 (ρ : Operand → Value) (o : Oper) (x y : Operand) (w : World) (s P : Nat) (hs : s < 32) (hP : 2 ^ s = P) (h1 : ρ x = .int .u32 1) (h2 : ρ y = .int .i64 s) : (execOp ρ { o with op := .binOp .shl 64 x y 3 }).run Tryz.prog w = .ok (.value (.int .u32 P)) w := by
  have hP1 : P ≤ 2147483648 := by rw [← hP]; exact Nat.pow_le_pow_right (n := 2) (by omega) (show s ≤ 31 by omega)
  have hPi : (2 : Int) ^ s = (P : Int) := by rw [← hP]; simp
  have h5 : IntKind.u32.wrap (P : Int) = (P : Int) := by rw [IntKind.wrap_u32]; omega
  unfold execOp
  go_simp
end Go.Proofs.YtgalppimdmjdcabGreatDoor

/-
  Rationals in the logic of statements: what is said of them, the machine's way with their boxes, lists of one and two.
-/
namespace Go.Proofs.YtgalppimdmjdcabGreatDoor
open Go Go.RowKit Nt
set_option linter.unusedSimpArgs false
set_option linter.unusedVariables false
set_option maxRecDepth 20000

/-- A struct of two numbers. -/
def PR (φ ψ : Pr) : Pr := fun v w => ∃ x0 x1 y0 y1, v = .agg #[x0, x1, y0, y1] ∧ φ (.agg #[x0, x1]) w ∧ ψ (.agg #[y0, y1]) w
def PRF (φ ψ : Nat → Pr) : Nat → Pr := fun lo => PR (φ lo) (ψ lo)
/-- A rational in one form, in new memory. -/
def RN (N : Int) (D : Nat) : Nat → Pr := PRF (ZN N) (ZN (D : Int))
theorem fresh_prf {φ ψ : Nat → Pr} (h : Fresh φ) (h' : Fresh ψ) : Fresh (PRF φ ψ) :=
  ⟨fun lo lo' v w hl ⟨x0, x1, y0, y1, e, a, b⟩ => ⟨x0, x1, y0, y1, e, h.mono _ _ _ _ hl a, h'.mono _ _ _ _ hl b⟩, fun lo v w w' B hB ⟨x0, x1, y0, y1, e, a, b⟩ ev => ⟨x0, x1, y0, y1, e, h.ev _ _ _ _ B hB a ev, h'.ev _ _ _ _ B hB b ev⟩⟩
theorem fresh_rn (N : Int) (D : Nat) : Fresh (RN N D) := fresh_prf (fresh_zn _) (fresh_zn _)
theorem pr_imp {φ ψ φ' ψ' : Pr} (h : ∀ v w, φ v w → φ' v w) (h' : ∀ v w, ψ v w → ψ' v w) : ∀ v w, PR φ ψ v w → PR φ' ψ' v w :=
  fun v w ⟨x0, x1, y0, y1, e, a, b⟩ => ⟨x0, x1, y0, y1, e, h _ _ a, h' _ _ b⟩
theorem zv_has {A : Int} {k : Nat} {u : Value} {w : World} (h : Zv A k u w) : Has (fun _ => False) w (Zv A k) u := fun w' e => by
  obtain ⟨s, p, n, c, xs, rfl, hs, hA, hn⟩ := h
  exact ⟨s, p, n, c, xs, rfl, sl_ev hs (fun _ _ _ _ h => h) e, hA, hn⟩
theorem pr_has {φ ψ : Pr} {u : Value} {w : World} (h : PR φ ψ u w) (h1 : ∀ v, φ v w → Has (fun _ => False) w φ v) (h2 : ∀ v, ψ v w → Has (fun _ => False) w ψ v) : Has (fun _ => False) w (PR φ ψ) u := fun w' e => by
  obtain ⟨x0, x1, y0, y1, rfl, a, b⟩ := h
  exact ⟨x0, x1, y0, y1, rfl, h1 _ a w' e, h2 _ b w' e⟩
/-- A rational by its worth: numerator, denominator, each of at most so many limbs. -/
abbrev Rv (A : Int) (D : Int) (k k' : Nat) : Pr := PR (Zv A k) (Zv D k')
theorem rv_has {A D : Int} {k k' : Nat} {u : Value} {w : World} (h : Rv A D k k' u w) : Has (fun _ => False) w (Rv A D k k') u := pr_has h (fun _ => zv_has) (fun _ => zv_has)
theorem rn_rv {N : Int} {D lo k k' : Nat} (h : (digs N.natAbs).length ≤ k) (h' : (digs D).length ≤ k') : ∀ v w, RN N D lo v w → Rv N (D : Int) k k' v w :=
  pr_imp (zn_zv h) (zn_zv (by rw [Int.natAbs_natCast]; exact h'))
theorem zero_zv : ∀ v w, Is (.agg #[.bool false, .slice none 0 0]) v w → Zv 0 0 v w := fun v w e => ⟨false, none, 0, 0, [], e, Sl.none w, rfl, Nat.le_refl _⟩

/-! Boxes. -/
theorem pair_cells {x0 x1 : Value} {φ : Pr} {w : World} (h : Shp 2 φ) (hφ : φ (.agg #[x0, x1]) w) : x0.oneCell' = true ∧ x1.oneCell' = true := by
  obtain ⟨cs, e, _, h1⟩ := h _ w hφ
  simp only [Value.agg.injEq] at e
  subst e
  simpa using h1
theorem shp_pr {φ ψ : Pr} (h : Shp 2 φ) (h' : Shp 2 ψ) : Shp 4 (PR φ ψ) := fun u w ⟨x0, x1, y0, y1, e, a, b⟩ => by
  have h1 := pair_cells h a
  have h2 := pair_cells h' b
  exact ⟨_, e, rfl, by simp [h1, h2]⟩
theorem shp_r0 : Shp 4 zR := fun u w e => ⟨_, e, rfl, by simp [Value.oneCell']⟩
theorem strct_rat : Strct 26 4 := ⟨⟨_, Tryz.underlying26, rfl⟩, by kernel_rfl⟩
theorem quad_cases {φ : Pr} (h : Shp 4 φ) {u : Value} {w : World} (hφ : φ u w) : ∃ x y z v, u = .agg #[x, y, z, v] := by
  obtain ⟨cs, rfl, hn, _⟩ := h u w hφ
  obtain ⟨l⟩ := cs
  match l, hn with
  | [x, y, z, v], _ => exact ⟨x, y, z, v, rfl⟩
theorem alloc_rat (ρ : Operand → Value) (o : Oper) (w : World) : (execOp ρ { o with op := .alloc 26 }).run Tryz.prog w = .ok (.value (.pointer (some ⟨w.heap.size, 0, none⟩))) (w.alloc (.cells (Value.agg #[.bool false, .slice none 0 0, .bool false, .slice none 0 0]).cells 26 (0, 0))) := by
  unfold execOp
  go_simp
theorem box_rat {φ : Pr} (h : Shp 4 φ) (ρ : Operand → Value) (o : Oper) (x : Operand) (w : World) (hφ : φ (ρ x) w) : (execOp ρ { o with op := .box 26 x }).run Tryz.prog w = .ok (.value (.pointer (some ⟨w.heap.size, 0, none⟩))) (w.alloc (.cells (ρ x).cells 26 (0, 0))) := by
  obtain ⟨y, z, u, v, e⟩ := quad_cases h hφ
  clear hφ h
  rw [e]
  unfold execOp
  go_simp
theorem part_rat0 (ρ : Operand → Value) (o : Oper) (x : Operand) (w : World) (b f : Nat) (h : ρ x = .pointer (some ⟨b, f, none⟩)) : (execOp ρ { o with op := .fieldAddr 26 x 0 }).run Tryz.prog w = .ok (.value (.pointer (some ⟨b, f, none⟩))) w := by
  unfold execOp
  go_simp
theorem part_rat1 (ρ : Operand → Value) (o : Oper) (x : Operand) (w : World) (b f : Nat) (h : ρ x = .pointer (some ⟨b, f, none⟩)) : (execOp ρ { o with op := .fieldAddr 26 x 1 }).run Tryz.prog w = .ok (.value (.pointer (some ⟨b, f + 2, none⟩))) w := by
  unfold execOp
  go_simp
/-- A number that lies in the midst of a block. -/
theorem load_mid {ρ : Operand → Value} {o : Oper} {x : Operand} {w : World} {b off : Nat} {x0 x1 : Value} (hx : ρ x = .pointer (some ⟨b, off, none⟩)) (h0 : w.cell? ⟨b, off, none⟩ = some x0) (h1 : w.cell? ⟨b, off + 1, none⟩ = some x1) :
    (execOp ρ { o with op := .load 24 x }).run Tryz.prog w = .ok (.value (.agg #[x0, x1])) w := by
  obtain ⟨⟨d, hu, hd⟩, hi⟩ := strct_int
  unfold execOp
  simp only [hx, Sem.run_bind, run_loadAt_mid (P := Tryz.prog) w b off 24 [x0, x1] d (fun j v hv => by
    match j, hv with
    | 0, hv => simp only [List.getElem?_cons_zero, Option.some.injEq] at hv; subst hv; exact h0
    | 1, hv => simp only [List.getElem?_cons_succ, List.getElem?_cons_zero, Option.some.injEq] at hv; subst hv; exact h1
    | j + 2, hv => simp at hv) hu hd (by rw [hi]; rfl), Result.andThen_ok, Sem.run_pure]
theorem cell_of {w : World} {b i : Nat} {cs : Array Value} {T : TypeId} (h : w.heap[b]? = some (.cells cs T (0, 0))) : w.cell? ⟨b, i, none⟩ = cs[i]? := by simp [World.cell?, h]
theorem pload_num {φ ψ : Pr} (ρ : Operand → Value) (o : Oper) (x : Operand) (w : World) (b : Nat) (u : Value) (hφ : PR φ ψ u w) (hx : ρ x = .pointer (some ⟨b, 0, none⟩)) (hb : w.heap[b]? = some (.cells u.cells 26 (0, 0))) :
    ∃ v, (execOp ρ { o with op := .load 24 x }).run Tryz.prog w = .ok (.value v) w ∧ ∀ w', PR φ ψ u w' → φ v w' := by
  obtain ⟨x0, x1, y0, y1, rfl, a, b'⟩ := hφ
  refine ⟨.agg #[x0, x1], load_mid hx ((cell_of hb).trans rfl) ((cell_of hb).trans rfl), fun w' h' => ?_⟩
  obtain ⟨a0, a1, b0, b1, e, ha, _⟩ := h'
  simp at e
  rw [e.1, e.2.1]
  exact ha
theorem pload_den {φ ψ : Pr} (ρ : Operand → Value) (o : Oper) (x : Operand) (w : World) (b : Nat) (u : Value) (hφ : PR φ ψ u w) (hx : ρ x = .pointer (some ⟨b, 2, none⟩)) (hb : w.heap[b]? = some (.cells u.cells 26 (0, 0))) :
    ∃ v, (execOp ρ { o with op := .load 24 x }).run Tryz.prog w = .ok (.value v) w ∧ ∀ w', PR φ ψ u w' → ψ v w' := by
  obtain ⟨x0, x1, y0, y1, rfl, a, b'⟩ := hφ
  refine ⟨.agg #[y0, y1], load_mid hx ((cell_of hb).trans rfl) ((cell_of hb).trans rfl), fun w' h' => ?_⟩
  obtain ⟨a0, a1, b0, b1, e, _, ha⟩ := h'
  simp at e
  rw [e.2.2.1, e.2.2.2]
  exact ha

section
variable {ops : Array Oper} {l : List Kd} {bx : Bxs} {sl : List (Tmp × Pr)} {i : Nat} {o : Oper} {Q : Exit → Act → World → Prop} {a0 : Act} {n : Nat} {w0 : World}
end
end Go.Proofs.YtgalppimdmjdcabGreatDoor

/-
  Calls that turn what their caller owns: the way in, the way out, and how the caller goes on.
-/
namespace Go.Proofs.YtgalppimdmjdcabGreatDoor
open Go Go.RowKit Nt
set_option linter.unusedSimpArgs false
set_option linter.unusedVariables false
set_option maxRecDepth 20000

section
variable {ops : Array Oper} {l : List Kd} {bx : Bxs} {sl : List (Tmp × Pr)} {i : Nat} {o : Oper} {Q : Exit → Act → World → Prop} {a0 : Act} {n : Nat} {w0 : World}
end

/-! A statement whose order is fixed, operation by operation. -/
section
variable {P : Program} {ops : Array Oper} {Q : Exit → Act → World → Prop} {a : Act} {W W' : World} {rest : List Oper} {o : Oper}
end
section
variable {w0 W W' : World} {n : Nat} {bx : Bxs} {sl : List (Tmp × Pr)} {B : Nat → Prop} {a : Act}
theorem Sta.put (S : Sta w0 n bx sl B a W) {d : Tmp} {v : Value} {φ : Pr} (hd : d < n) (hφ : Has B W φ v) (bx' : Bxs) (sl' : List (Tmp × Pr)) (hb : ∀ x ∈ bx', x ∈ bx ∧ x.1 ≠ d) (hs : ∀ x ∈ sl', x ∈ sl ∧ x.1 ≠ d) : Sta w0 n bx' ((d, φ) :: sl') B (a.put (some d) v) W := by
  have ev : ∀ t, t ≠ d → (a.put (some d) v).eval (.tmp t) = a.eval (.tmp t) := fun t ht => Act.eval_put (fun d' hd' e => by
    cases hd'
    simp at e
    first | exact ht e | exact ht e.symm)
  have self : (a.put (some d) v).eval (.tmp d) = v := by
    have : d < a.tmps.size := by rw [S.siz]; exact hd
    simp [Act.eval, Act.put, this]
  refine ⟨S.ent, S.bnd, by rw [put_size]; exact S.siz, by rw [put_defers']; exact S.dfr, fun x hx => ?_, fun x hx y hy b h1 h2 => ?_, fun x hx => ?_⟩
  · rw [ev _ (hb x hx).2]
    exact S.box x (hb x hx).1
  · rw [ev _ (hb x hx).2] at h1
    rw [ev _ (hb y hy).2] at h2
    exact S.sep x (hb x hx).1 y (hb y hy).1 b h1 h2
  · rcases List.mem_cons.1 hx with rfl | hx
    · rw [self]; exact hφ
    · rw [ev _ (hs x hx).2]
      exact S.slt x (hs x hx).1
theorem Ev.mono {B B' : Nat → Prop} {w w' : World} (e : Ev B w w') (h : ∀ k, B k → B' k) : Ev B' w w' := ⟨e.os, e.tape, e.output, e.size, fun k hk hn => e.block k hk (fun hb => hn (h k hb))⟩
/-- Behind a call that turned things of the caller's own. -/
theorem Sta.turn (S : Sta w0 n bx sl B a W) {Sx : Nat → Prop} (e : Ev Sx W W') (hS : ∀ k, Sx k → B k) (bx' : Bxs) (h : ∀ x ∈ bx', (∃ r, (x.1, r) ∈ bx) ∧ x.2.at w0.heap.size B W' (a.eval (.tmp x.1))) (hpl : bx.all (fun x => x.2.plain) = true := by rfl) (hpl' : bx'.all (fun x => x.2.plain) = true := by rfl) : Sta w0 n bx' sl B a W' := by
  have eB : Ev B W W' := e.mono hS
  refine ⟨?_, fun k hk => ⟨(S.bnd k hk).1, Nat.lt_of_lt_of_le (S.bnd k hk).2 e.size⟩, S.siz, S.dfr, fun x hx => (h x hx).2, fun x hx y hy b h1 h2 => ?_, fun x hx => (S.slt x hx).go eB (fun _ _ h => h)⟩
  · refine ⟨e.os.trans S.ent.os, e.tape.trans S.ent.tape, e.output.trans S.ent.output, Nat.le_trans S.ent.size e.size, fun k hk => ?_⟩
    have hk' : k < W.heap.size := Nat.lt_of_lt_of_le hk S.ent.size
    exact (eB.block k hk' (fun hb => by have := (S.bnd k hb).1; omega)).trans (S.ent.block k hk)
  · obtain ⟨r, hr⟩ := (h x hx).1
    obtain ⟨r', hr'⟩ := (h y hy).1
    have p1 := List.all_eq_true.1 hpl _ hr
    have p2 := List.all_eq_true.1 hpl _ hr'
    have q1 := List.all_eq_true.1 hpl' x hx
    have q2 := List.all_eq_true.1 hpl' y hy
    exact S.sep (x.1, r) hr (y.1, r') hr' b ((Rk.set_plain p1 _ _).2 ((Rk.set_plain q1 _ _).1 h1)) ((Rk.set_plain p2 _ _).2 ((Rk.set_plain q2 _ _).1 h2))
end
end Go.Proofs.YtgalppimdmjdcabGreatDoor
