/-
  MatTexts' walk: it returns true and writes nothing that was there.
-/
import Derived.Test.YtdhjgekbocnnkaaDoorMRText
import Derived.Test.YtdhjgekbocnnkaaDoorSetH
import Derived.Test.YtdhjgekbocnnkaaDoorMArgs
namespace Go.Proofs.YtdhjgekbocnnkaaDoor
open Go Go.RowKit Nt
set_option linter.unusedSimpArgs false
set_option linter.unusedVariables false
set_option maxRecDepth 20000


theorem join_le (sep : List UInt8) : ∀ ls : List (List UInt8), (Lib.join ls sep).length ≤ (ls.map (fun l => l.length + sep.length)).sum
  | [] => by simp [Lib.join_nil]
  | x :: r => by
    rw [Lib.join_length]
    have : ∀ r : List (List UInt8), (r.map (fun l => l.length + sep.length)).sum = sep.length * r.length + Lib.lens r := fun r => by
      induction r with
      | nil => simp [Lib.lens]
      | cons y t ih => simp only [List.map_cons, List.sum_cons, ih, List.length_cons, Nat.mul_succ, Lib.lens]; omega
    simp only [List.map_cons, List.sum_cons, this r, Lib.lens]
    omega
theorem sum_le {α : Type} {f g : α → Nat} : ∀ {l : List α}, (∀ a ∈ l, f a ≤ g a) → (l.map f).sum ≤ (l.map g).sum
  | [], _ => by simp
  | a :: r, h => by
    have h1 := h a (List.mem_cons_self ..)
    have h2 := sum_le (l := r) (fun x hx => h x (List.mem_cons_of_mem _ hx))
    simp only [List.map_cons, List.sum_cons]
    omega
theorem sum_mul {α : Type} (c : Nat) (f : α → Nat) : ∀ l : List α, (l.map (fun a => c * f a)).sum = c * (l.map f).sum
  | [] => by simp
  | a :: r => by simp only [List.map_cons, List.sum_cons, sum_mul c f r, Nat.mul_add]
theorem txV_es {es : List El} (h : ∀ e ∈ es, (digs e.z.natAbs).length ≤ e.c) : (txV (es.map El.z)).length ≤ 35 * (es.map (fun e => e.c + 1)).sum := by
  unfold txV
  refine Nat.le_trans (join_le _ _) ?_
  rw [List.map_map, List.map_map, ← sum_mul]
  refine sum_le (fun e he => ?_)
  have := txZ_len (h e he)
  simp only [Function.comp, List.length_singleton]
  omega
theorem sum_mem {α : Type} {f : α → Nat} {l : List α} {a : α} (h : a ∈ l) : f a ≤ (l.map f).sum := by
  induction l with
  | nil => cases h
  | cons b r ih =>
    simp only [List.map_cons, List.sum_cons]
    rcases List.mem_cons.1 h with rfl | h
    · omega
    · have := ih h; omega
theorem txM_es {ess : List (List El)} (h : ∀ es ∈ ess, ∀ e ∈ es, (digs e.z.natAbs).length ≤ e.c) : (txM (zz ess)).length ≤ 35 * (ess.map (fun es => (es.map (fun e => e.c + 1)).sum)).sum + 2 * ess.length := by
  unfold txM
  refine Nat.le_trans (join_le _ _) ?_
  have h1 : ∀ l : List (List El), (l.map (fun es => 35 * (es.map (fun e => e.c + 1)).sum + 2)).sum = 35 * (l.map (fun es => (es.map (fun e => e.c + 1)).sum)).sum + 2 * l.length := fun l => by
    induction l with
    | nil => simp
    | cons x r ih => simp only [List.map_cons, List.sum_cons, ih, List.length_cons, Nat.mul_succ, Nat.mul_add]; omega
  rw [← h1, List.map_map, List.map_map]
  refine sum_le (fun es he => ?_)
  have := txV_es (h es he)
  simp only [Function.comp, List.length_cons, List.length_nil]
  omega

set_option maxHeartbeats 4000000 in
theorem mattexts_w (w : World) (u v : Value) (n m : Nat) (es : List (List El)) (fs : List El) (h : Hs w (Mx n es) u) (h' : Hs w (Vx m fs) v) (hn : n ≤ 1048576) (hm : m ≤ 1048576) (hE : Me es El.n 1048576) (hEc : Me es El.c 35184372087808) (hEl : Ml es 1048576) (hF : ∀ (i : Nat) e, fs[i]? = some e → e.n ≤ 1048576) (hFc : ∀ (i : Nat) e, fs[i]? = some e → e.c ≤ 35184372087808) (hT : Tab w) (hq : (txM (zz es)).length ≤ 140737488355328) (hqr : ∀ r, r ∈ zz es → (txV r).length ≤ 140737488355328) (hqv : (txV (fs.map El.z)).length ≤ 140737488355328) :
    Calls Tryd.prog 3 #[u, v] w (Gives (IS (.bool true)) w) := by
  have hEz : Ml (zz es) 1048576 := fun i zs hz => by
      obtain ⟨x, hx, rfl⟩ := map_get hz
      rw [List.length_map]
      exact hEl i x hx
  refine calls_sta (sl := [(0, (Mx n es)), (1, (Vx m fs))]) Tryd.func3 rfl Tryd.ntmps3 (by simp) (args_cons rfl (h) (args_cons rfl (h') args_nil)) ?_
  intro a0 S0
  replace S0 : Sta w 19 [] [(0, (Mx n es)), (1, (Vx m fs)), (1000001, TT)] (fun _ => False) a0 w := S0.moreT 1000001 (tt_has hT)
  refine wp_stmt_seq [.val (Is (.bool false))] [] [.inl 0, .inr 0, .inr 1, .inr 2] follows S0 rfl (by kernel_rfl) ?_ ?_
  · refine ⟨trivial, ?_⟩
    · exact owe_move rfl (wants_all rfl) (Or.inr rfl) (opnd_const _) rfl
  intro B1 a1 W1 S1
  replace S1 : Sta w 19 [] [(4, (Is (.bool false))), (0, (Mx n es)), (1, (Vx m fs)), (1000001, TT)] B1 a1 W1 := S1
  refine wp_stmt_seq [.val (Mx n es),
      .val ((MO n es) w.heap.size),
      .val (Is (str (txM (zz es)))),
      .val (Mx n es),
      .val (Is (str (txM (zz es)))),
      .val (Is (.bool true)),
      .val (Is (.bool true)),
      .val (Vx m fs),
      .val ((VO m fs) w.heap.size),
      .val (Is (str (txV (fs.map El.z)))),
      .val (Vx m fs),
      .val (Is (str (txV (fs.map El.z)))),
      .val (Is (.bool true)),
      .val (Is (.bool true)),
      .val (Is (.bool true))] [] [.inl 14, .inr 3] follows S1 rfl (by kernel_rfl) ?_ ?_
  · refine ⟨⟨⟨⟨⟨⟨⟨⟨⟨⟨⟨⟨⟨⟨⟨trivial, ?_⟩, ?_⟩, ?_⟩, ?_⟩, ?_⟩, ?_⟩, ?_⟩, ?_⟩, ?_⟩, ?_⟩, ?_⟩, ?_⟩, ?_⟩, ?_⟩, ?_⟩
    · exact owe_move rfl (wants_all rfl) (Or.inl rfl) (opnd_slot 1 0 rfl (by kernel_rfl)) rfl
    · exact owe_callh1 rfl (wants_all rfl) rfl (opnd_op 0 5 (by kernel_rfl) rfl) fresh_mo rfl (fun args w => by go_simp) (fun w u h => ownm_w w u _ _ h hn hEl hEc)
    · exact owe_callh1 rfl (wants_all rfl) rfl (opnd_tp ((opnd_op 1 6 (by kernel_rfl) rfl).imp (mo_mv hE)) (opnd_slot 3 1000001 rfl (by kernel_rfl))) (fresh_is _) rfl (fun args w => by go_simp) (fun w u h => text_w w u n 1048576 _ (tp_out h).1 (by omega) (by omega) hEz (tp_out h).2 hqr hq)
    · exact owe_move rfl (wants_all rfl) (Or.inl rfl) (opnd_slot 1 0 rfl (by kernel_rfl)) rfl
    · exact owe_callh1 rfl (wants_all rfl) rfl ((opnd_op 3 8 (by kernel_rfl) rfl).imp (mx_mv hE)) (fresh_is _) rfl (fun args w => by go_simp) (fun w u h => rtextm_w w u n 1048576 _ h (by omega) (by omega) hEz hqr hq)
    · exact owe_bin rfl (wants_all rfl) rfl (opnd_op 2 7 (by kernel_rfl) rfl) (opnd_op 4 9 (by kernel_rfl) rfl) rfl (fun ρ w h1 h2 => by exact run_eqs ρ _ _ _ w _ h1 h2)
    · exact owe_move rfl (wants_all rfl) (Or.inl rfl) (opnd_op 5 10 (by kernel_rfl) rfl) rfl
    · exact owe_move rfl (wants_if 6 11 rfl (by kernel_rfl) rfl) (Or.inl rfl) (opnd_slot 2 1 rfl (by kernel_rfl)) rfl
    · exact owe_callh1 rfl (wants_if 6 11 rfl (by kernel_rfl) rfl) rfl (opnd_op 7 12 (by kernel_rfl) rfl) fresh_vo rfl (fun args w => by go_simp) (fun w u h => owns_w w u _ _ h hm hFc)
    · exact owe_callh1 rfl (wants_if 6 11 rfl (by kernel_rfl) rfl) rfl (opnd_tp ((opnd_op 8 13 (by kernel_rfl) rfl).imp (vo_vv hF)) (opnd_slot 3 1000001 rfl (by kernel_rfl))) (fresh_is _) rfl (fun args w => by go_simp) (fun w u h => textv_w w u m 1048576 _ (tp_out h).1 (by omega) (by omega) (tp_out h).2 hqv)
    · exact owe_move rfl (wants_if 6 11 rfl (by kernel_rfl) rfl) (Or.inl rfl) (opnd_slot 2 1 rfl (by kernel_rfl)) rfl
    · exact owe_callh1 rfl (wants_if 6 11 rfl (by kernel_rfl) rfl) rfl ((opnd_op 10 15 (by kernel_rfl) rfl).imp (vx_vv hF)) (fresh_is _) rfl (fun args w => by go_simp) (fun w u h => rtextv_w w u m 1048576 _ h (by omega) (by omega) hqv)
    · exact owe_bin rfl (wants_if 6 11 rfl (by kernel_rfl) rfl) rfl (opnd_op 9 14 (by kernel_rfl) rfl) (opnd_op 11 16 (by kernel_rfl) rfl) rfl (fun ρ w h1 h2 => by exact run_eqs ρ _ _ _ w _ h1 h2)
    · exact owe_pick rfl (wants_all rfl) rfl (opnd_op 6 11 (by kernel_rfl) rfl) (fun _ => (opnd_op 12 17 (by kernel_rfl) rfl)) (fun h => nomatch h) rfl
    · exact owe_move rfl (wants_all rfl) (Or.inr rfl) (opnd_op 13 18 (by kernel_rfl) rfl) rfl
  intro B2 a2 W2 S2
  replace S2 : Sta w 19 [] [(4, (Is (.bool true))), (1000001, TT)] B2 a2 W2 := S2
  refine wp_ret ?_
  exact end_one S2 rfl (res_tmp S2 0 4 rfl)

theorem mattexts_walk (w : World) (p0 : Option Addr) (n c0 : Nat) (rs : List Rw) (p1 : Option Addr) (m c1 : Nat) (fs : List El) (h : Ms w p0 n c0 rs) (h' : Ls w p1 m c1 fs) (b0 : c0 ≤ 1048576) (b0' : ∀ (i : Nat) (r : Rw), rs[i]? = some r → r.c ≤ 1048576 ∧ ∀ (j : Nat) (e : El), r.es[j]? = some e → e.c ≤ 1048576) (b1 : c1 ≤ 1048576) (b1' : ∀ (i : Nat) (e : El), fs[i]? = some e → e.c ≤ 1048576) (ht : Tab w)
    (t0 : (rs.map (fun r => (r.es.map (fun e => e.c + 1)).sum)).sum ≤ 1048576) (t1 : (fs.map (fun e => e.c + 1)).sum ≤ 1048576) :
    Calls Tryd.prog 3 #[.slice p0 n c0, .slice p1 m c1] w fun e w' => e = .returned (.bool true) ∧ Below w.heap.size w w' := by
  have q0 := h.cap
  have q1 := h'.cap
  have l0 := h.len
  obtain ⟨x1, x2, x3⟩ := ms_n h b0'
  have y1 : ∀ (i : Nat) e, fs[i]? = some e → e.n ≤ 1048576 := fun i e he => by
    obtain ⟨b, o, _, _, _, hs⟩ := h'.lie i e he
    have := hs.cap
    have := b1' i e he
    omega
  have dz : ∀ {p : Option Addr} {n c : Nat} {es : List El}, Ls w p n c es → ∀ e ∈ es, (digs e.z.natAbs).length ≤ e.c := fun L e he => by
    obtain ⟨i, hi⟩ := List.mem_iff_getElem?.1 he
    obtain ⟨b, o, _, _, _, hs⟩ := L.lie i e hi
    have := hs.cap
    have h1 := hs.dl
    show (digs (sg e.s (val e.xs)).natAbs).length ≤ e.c
    rw [sg_abs]
    omega
  have dr : ∀ es ∈ rs.map Rw.es, ∀ e ∈ es, (digs e.z.natAbs).length ≤ e.c := fun es he => by
    obtain ⟨r, hr, rfl⟩ := List.mem_map.1 he
    obtain ⟨i, hi⟩ := List.mem_iff_getElem?.1 hr
    obtain ⟨b, o, _, _, L⟩ := h.lie i r hi
    exact dz L
  have s1 := txM_es dr
  have e1 : ((rs.map Rw.es).map (fun es => (es.map (fun e => e.c + 1)).sum)).sum = (rs.map (fun r => (r.es.map (fun e => e.c + 1)).sum)).sum := by rw [List.map_map]; rfl
  rw [e1, List.length_map] at s1
  have s2 : ∀ r, r ∈ zz (rs.map Rw.es) → (txV r).length ≤ 140737488355328 := fun r hr => by
    obtain ⟨es, he, rfl⟩ := List.mem_map.1 hr
    have a1 := txV_es (dr es he)
    have a2 := sum_mem (f := fun es : List El => (es.map (fun e => e.c + 1)).sum) he
    rw [e1] at a2
    omega
  have s3 := txV_es (dz h')
  refine (mattexts_w w _ _ n m _ fs (ms_hs h) (ls_hs h') (by omega) (by omega) x1 (fun i es he j e hj => Nat.le_trans (x2 i es he j e hj) (by decide)) x3 y1 (fun i e he => Nat.le_trans (b1' i e he) (by decide)) ht (by omega) s2 (by omega)).mono ?_
  rintro e w' ⟨v, rfl, hb, hv⟩
  obtain rfl : v = _ := hv
  exact ⟨rfl, hb⟩
end Go.Proofs.YtdhjgekbocnnkaaDoor
