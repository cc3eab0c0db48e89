/-
  MatSames' walk: it returns true and writes nothing that was there.
-/
import Derived.Test.YtiehipnaklkhjaaMMat
namespace Go.Proofs.Ytiehipnaklkhjaa
open Go Go.RowKit Nt
set_option linter.unusedSimpArgs false
set_option linter.unusedVariables false
set_option maxRecDepth 20000


theorem ml_zz {ess : List (List El)} {k : Nat} (h : Ml ess k) : Ml (zz ess) k := fun i zs hz => by
  obtain ⟨es, he, rfl⟩ := map_get hz
  rw [List.length_map]
  exact h i es he
theorem mv_mdl {n k : Nat} {zss : List (List Int)} {u : Value} {w : World} (h : Mv n zss k u w) : Mdl zss k := fun i zs hz => by
  obtain ⟨r, hr⟩ := mv_row h hz
  exact vv_dl hr
theorem mdl_zz {n k : Nat} {ess : List (List El)} {u : Value} {w : World} (h : Mx n ess u w) (hE : Me ess El.n k) : Mdl (zz ess) k := mv_mdl (mx_mv hE u w h)
theorem Hs.now {w : World} {φ : Pr} {v : Value} (h : Hs w φ v) : φ v w := Has.now h

set_option maxHeartbeats 4000000 in
theorem matsames_w (w : World) (u v : Value) (n m : Nat) (es fs : List (List El)) (h : Hs w (Mx n es) u) (h' : Hs w (Mx m fs) v) (hn : n ≤ 1048576) (hm : m ≤ 1048576) (hE : Me es El.n 1048576) (hF : Me fs El.n 1048576) (hEc : Me es El.c 35184372087808) (hFc : Me fs El.c 35184372087808) (hEl : Ml es 1048576) (hFl : Ml fs 1048576) :
    Calls Try.prog 6 #[u, v] w (Gives (IS (.bool true)) w) := by
  have hEz := ml_zz hEl
  have hFz := ml_zz hFl
  have hD := mdl_zz (Hs.now h) hE
  have hrefl := sameZ_refl (zz es)
  refine calls_sta (sl := [(0, (Mx n es)), (1, (Mx m fs))]) Try.func6 rfl Try.ntmps6 (by simp) (args_cons rfl (h) (args_cons rfl (h') args_nil)) ?_
  intro a0 S0
  refine wp_stmt_seq [.val (Is (.bool false))] [] [.inl 0, .inr 0, .inr 1] follows S0 rfl (by kernel_rfl) ?_ ?_
  · refine ⟨trivial, ?_⟩
    · exact owe_move rfl (wants_all rfl) (Or.inr rfl) (opnd_const _) rfl
  intro B1 a1 W1 S1
  replace S1 : Sta w 21 [] [(4, (Is (.bool false))), (0, (Mx n es)), (1, (Mx m fs))] B1 a1 W1 := S1
  refine wp_stmt_seq [.val (Mx n es),
      .val ((MO n es) w.heap.size),
      .val (Mx m fs),
      .val ((MO m fs) w.heap.size),
      .val (Is (.bool (sameZ (zz es) (zz fs)))),
      .val (Mx n es),
      .val (Mx m fs),
      .val (Is (.bool (sameZ (zz es) (zz fs)))),
      .val (Is (.bool true)),
      .val (Is (.bool true)),
      .val (Mx n es),
      .val ((MO n es) w.heap.size),
      .val (Mx n es),
      .val ((MN n (zz es)) w.heap.size),
      .val (Is (.bool true)),
      .val (Is (.bool true)),
      .val (Is (.bool true))] [] [.inl 16] follows S1 rfl (by kernel_rfl) ?_ ?_
  · refine ⟨⟨⟨⟨⟨⟨⟨⟨⟨⟨⟨⟨⟨⟨⟨⟨⟨trivial, ?_⟩, ?_⟩, ?_⟩, ?_⟩, ?_⟩, ?_⟩, ?_⟩, ?_⟩, ?_⟩, ?_⟩, ?_⟩, ?_⟩, ?_⟩, ?_⟩, ?_⟩, ?_⟩, ?_⟩
    · exact owe_move rfl (wants_all rfl) (Or.inl rfl) (opnd_slot 1 0 rfl (by kernel_rfl)) rfl
    · exact owe_callh1 rfl (wants_all rfl) rfl (opnd_op 0 5 (by kernel_rfl) rfl) fresh_mo rfl (fun args w => by go_simp) (fun w u h => ownm_w w u _ _ h hn hEl hEc)
    · exact owe_move rfl (wants_all rfl) (Or.inl rfl) (opnd_slot 2 1 rfl (by kernel_rfl)) rfl
    · exact owe_callh1 rfl (wants_all rfl) rfl (opnd_op 2 7 (by kernel_rfl) rfl) fresh_mo rfl (fun args w => by go_simp) (fun w u h => ownm_w w u _ _ h hm hFl hFc)
    · exact owe_callh2 rfl (wants_all rfl) rfl ((opnd_op 1 6 (by kernel_rfl) rfl).imp (mo_mv hE)) ((opnd_op 3 8 (by kernel_rfl) rfl).imp (mo_mv hF)) (fresh_is _) rfl (fun args w => by go_simp) (fun w u v h h' => same_w w u v n m 1048576 1048576 _ _ h h' (by omega) (by omega) (by omega) (by omega) hEz hFz)
    · exact owe_move rfl (wants_all rfl) (Or.inl rfl) (opnd_slot 1 0 rfl (by kernel_rfl)) rfl
    · exact owe_move rfl (wants_all rfl) (Or.inl rfl) (opnd_slot 2 1 rfl (by kernel_rfl)) rfl
    · exact owe_callh2 rfl (wants_all rfl) rfl ((opnd_op 5 10 (by kernel_rfl) rfl).imp (mx_mv hE)) ((opnd_op 6 11 (by kernel_rfl) rfl).imp (mx_mv hF)) (fresh_is _) rfl (fun args w => by go_simp) (fun w u v h h' => rsame_w w u v n m 1048576 1048576 _ _ h h' (by omega) (by omega) (by omega) (by omega) hEz hFz)
    · exact owe_bin rfl (wants_all rfl) rfl (opnd_op 4 9 (by kernel_rfl) rfl) (opnd_op 7 12 (by kernel_rfl) rfl) rfl (fun ρ w h1 h2 => by rw [run_eql_bool ρ _ _ _ w _ _ h1 h2]; simp)
    · exact owe_move rfl (wants_all rfl) (Or.inl rfl) (opnd_op 8 13 (by kernel_rfl) rfl) rfl
    · exact owe_move rfl (wants_if 9 14 rfl (by kernel_rfl) rfl) (Or.inl rfl) (opnd_slot 1 0 rfl (by kernel_rfl)) rfl
    · exact owe_callh1 rfl (wants_if 9 14 rfl (by kernel_rfl) rfl) rfl (opnd_op 10 15 (by kernel_rfl) rfl) fresh_mo rfl (fun args w => by go_simp) (fun w u h => ownm_w w u _ _ h hn hEl hEc)
    · exact owe_move rfl (wants_if 9 14 rfl (by kernel_rfl) rfl) (Or.inl rfl) (opnd_slot 1 0 rfl (by kernel_rfl)) rfl
    · exact owe_callh1 rfl (wants_if 9 14 rfl (by kernel_rfl) rfl) rfl ((opnd_op 12 17 (by kernel_rfl) rfl).imp (mx_mv hE)) fresh_mn rfl (fun args w => by go_simp) (fun w u h => rform_w w u n 1048576 _ h hn (by omega) hEz)
    · exact owe_callh2 rfl (wants_if 9 14 rfl (by kernel_rfl) rfl) rfl ((opnd_op 11 16 (by kernel_rfl) rfl).imp (mo_mv hE)) ((opnd_op 13 18 (by kernel_rfl) rfl).imp (mn_mv hD)) (fresh_is _) rfl (fun args w => by go_simp) (fun w u0 u1 h0 h1 => Gives.cast ((fun w u v h h' => same_w w u v n n 1048576 1048576 _ _ h h' (by omega) (by omega) (by omega) (by omega) hEz hEz) w u0 u1 h0 h1) (by rw [hrefl]))
    · exact owe_pick rfl (wants_all rfl) rfl (opnd_op 9 14 (by kernel_rfl) rfl) (fun _ => (opnd_op 14 19 (by kernel_rfl) rfl)) (fun h => nomatch h) rfl
    · exact owe_move rfl (wants_all rfl) (Or.inr rfl) (opnd_op 15 20 (by kernel_rfl) rfl) rfl
  intro B2 a2 W2 S2
  replace S2 : Sta w 21 [] [(4, (Is (.bool true)))] B2 a2 W2 := S2
  refine wp_ret ?_
  exact end_one S2 rfl (res_tmp S2 0 4 rfl)

theorem matsames_walk (w : World) (p0 : Option Addr) (n c0 : Nat) (rs : List Rw) (p1 : Option Addr) (m c1 : Nat) (ts : List Rw) (h : Ms w p0 n c0 rs) (h' : Ms w p1 m c1 ts) (b0 : c0 ≤ 1048576) (b0' : ∀ (i : Nat) (r : Rw), rs[i]? = some r → r.c ≤ 1048576 ∧ ∀ (j : Nat) (e : El), r.es[j]? = some e → e.c ≤ 1048576) (b1 : c1 ≤ 1048576) (b1' : ∀ (i : Nat) (r : Rw), ts[i]? = some r → r.c ≤ 1048576 ∧ ∀ (j : Nat) (e : El), r.es[j]? = some e → e.c ≤ 1048576) :
    Calls Try.prog 6 #[.slice p0 n c0, .slice p1 m c1] w fun e w' => e = .returned (.bool true) ∧ Below w.heap.size w w' := by
  have q0 := h.cap
  have q1 := h'.cap
  obtain ⟨x1, x2, x3⟩ := ms_n h b0'
  obtain ⟨y1, y2, y3⟩ := ms_n h' b1'
  refine (matsames_w w _ _ n m _ _ (ms_hs h) (ms_hs h') (by omega) (by omega) x1 y1 (fun i es he j e hj => Nat.le_trans (x2 i es he j e hj) (by decide)) (fun i es he j e hj => Nat.le_trans (y2 i es he j e hj) (by decide)) x3 y3).mono ?_
  rintro e w' ⟨v, rfl, hb, hv⟩
  obtain rfl : v = _ := hv
  exact ⟨rfl, hb⟩
end Go.Proofs.Ytiehipnaklkhjaa
