/-
  zint.total and zint.Sum: the sum of a list of numbers.
-/
import Derived.Test.YtnbmpldfbbidmaaPile
import Derived.Test.YtnbmpldfbbidmaaLists
import Derived.Test.YtnbmpldfbbidmaaZAdd
import Derived.Test.YtnbmpldfbbidmaaConts
namespace Go.Proofs.Ytnbmpldfbbidmaa
open Go Go.RowKit Nt
set_option linter.unusedSimpArgs false
set_option linter.unusedVariables false

/-- What total's loop keeps: two rows of the call's own, and the result's place. -/
structure TI (w wr : World) (g : Nat) (es : List El) (k : Nat) (s3 s4 : Value) (P M : List Nat) : Prop where
  own1 : Own wr w.heap.size s3 P
  own2 : Own wr w.heap.size s4 M
  ok1 : Ok P
  ok2 : Ok M
  sum : (val P : Int) - (val M : Int) = tot es k
  len1 : P.length ≤ 1048576 + k
  len2 : M.length ≤ 1048576 + k
  sep : ∀ j, s3.ownBlock = some j → s4.ownBlock = some j → False
  inv : Inv w wr g
  far1 : s3.ownBlock ≠ some g
  far2 : s4.ownBlock ≠ some g
theorem own_open {w : World} {base : Nat} {v : Value} {xs : List Nat} (h : Own w base v xs) : ∃ p c, v = .slice p xs.length c ∧ xs.length ≤ c ∧ c ≤ 9223372036854775807 := by
  obtain ⟨h1, h2⟩ := h
  rcases h2 with ⟨rfl, h0⟩ | ⟨g, cap, cur, rfl, _, _, hc, hm, _⟩
  · exact ⟨none, 0, by rw [h0], by omega, by omega⟩
  · exact ⟨_, cap, rfl, hc, by unfold maxLen at hm; omega⟩
theorem own_empty {w : World} {base : Nat} (hb : base ≤ w.heap.size) : Own (w.alloc (.cells #[] 30)) base (.slice (some ⟨w.heap.size, 0, none⟩) 0 0) [] :=
  World.ownsRow_made w #[] 0 hb (Nat.zero_le _) rfl
/-- On by one element: the row that it is added to. -/
theorem TI.next {w wr w3 : World} {g : Nat} {es : List El} {k : Nat} {s3 s4 v' : Value} {P M Z : List Nat} {e : El} {a b : Value} (h : TI w wr g es k s3 s4 P M) (he : es[k]? = some e) (hlen : e.n ≤ 1048576) (neg : Bool) (hneg : e.s = neg)
    (own : Own w3 w.heap.size v' Z) (ok : Ok Z) (hv : val Z = (if neg then val M else val P) + val e.xs) (hl : Z.length ≤ max (if neg then M.length else P.length) e.n + 1)
    (oth : ∀ j, j < (wr.alloc (.cells #[a, b] 25)).heap.size → (if neg then s4 else s3).ownBlock ≠ some j → w3.heap[j]? = (wr.alloc (.cells #[a, b] 25)).heap[j]?)
    (at' : v'.ownBlock = (if neg then s4 else s3).ownBlock ∨ ∀ j, v'.ownBlock = some j → (wr.alloc (.cells #[a, b] 25)).heap.size ≤ j)
    (bel : Below w.heap.size (wr.alloc (.cells #[a, b] 25)) w3) :
    TI w w3 g es (k + 1) (if neg then s3 else v') (if neg then v' else s4) (if neg then P else Z) (if neg then Z else M) := by
  have hsz : wr.heap.size ≤ (wr.alloc (.cells #[a, b] 25)).heap.size := by simp
  have hal : ∀ j, j < wr.heap.size → (wr.alloc (.cells #[a, b] 25)).heap[j]? = wr.heap[j]? := fun j hj => heap_alloc_old' wr _ j hj
  have hs := tot_succ he
  have gl := h.inv.lt
  have hB : Below w.heap.size w w3 := by
    have e1 := h.inv.below.alloc (h.inv.below.size) (.cells #[a, b] 25)
    exact ⟨bel.os.trans e1.os, bel.tape.trans e1.tape, bel.output.trans e1.output, Nat.le_trans e1.size bel.size, fun i hi => (bel.block i hi).trans (e1.block i hi)⟩
  have box : (if neg then s4 else s3).ownBlock ≠ some g → Inv w w3 g := fun hne => by
    obtain ⟨b0, r0, n0, c0, hx⟩ := h.inv.box
    exact ⟨hB, ⟨b0, r0, n0, c0, ((oth g (by omega) hne).trans (hal g gl)).trans hx⟩, h.inv.fresh⟩
  cases neg with
  | true =>
    simp only [if_true] at *
    refine ⟨h.own1.otherZ (fun j hj => ?_), own, h.ok1, ok, ?_, by have := h.len1; omega, by have := h.len2; omega, fun j h1 h2 => ?_, box h.far2, h.far1, fun e => ?_⟩
    · have hj2 := (World.ownsRow.lt h.own1 j hj).2
      exact (oth j (by omega) (fun e => h.sep j hj e)).trans (hal j hj2)
    · rw [hs, ← h.sum, hv, hneg, Int.natCast_add]; simp only [sg, if_true]; omega
    · rcases at' with f | f
      · exact h.sep j h1 (by rw [← f]; exact h2)
      · have := f j h2; have := (World.ownsRow.lt h.own1 j h1).2; omega
    · rcases at' with f | f
      · exact h.far2 (by rw [← f]; exact e)
      · have := f g e; omega
  | false =>
    simp only [Bool.false_eq_true, if_false] at *
    refine ⟨own, h.own2.otherZ (fun j hj => ?_), ok, h.ok2, ?_, by have := h.len1; omega, by have := h.len2; omega, fun j h1 h2 => ?_, box h.far1, fun e => ?_, h.far2⟩
    · have hj2 := (World.ownsRow.lt h.own2 j hj).2
      exact (oth j (by omega) (fun e => h.sep j e hj)).trans (hal j hj2)
    · rw [hs, ← h.sum, hv, hneg, Int.natCast_add]; simp only [sg, Bool.false_eq_true, if_false]; omega
    · rcases at' with f | f
      · exact h.sep j (by rw [← f]; exact h1) h2
      · have := f j h1; have := (World.ownsRow.lt h.own2 j h2).2; omega
    · rcases at' with f | f
      · exact h.far1 (by rw [← f]; exact e)
      · have := f g e; omega

set_option maxHeartbeats 4000000 in
theorem total_c (w : World) (p : Option Addr) (n c : Nat) (es : List El) (h : Ls w p n c es) (hn : n ≤ 1048576) (hB : ∀ (i : Nat) (e : El), es[i]? = some e → e.n ≤ 1048576) :
    Calls Try.prog 8 #[.slice p n c] w fun e w' => ∃ r cr, e = .returned (.agg #[.bool (ng (tot es n)), .slice r (digs (tot es n).natAbs).length cr]) ∧ Za w w' r cr (tot es n) := by
  obtain ⟨W, g, hg, hW, c00, c01, HI⟩ := enter0 w
  have hnc := h.cap
  have hcm := h.max
  unfold maxLen at hcm
  have HL := hid h
  have HBB := hid hB
  clear h hB
  obtain ⟨z, hz⟩ : ∃ z, tot es n = z := ⟨_, rfl⟩
  rw [hz]
  have HZ := hid hz
  obtain ⟨L, hL⟩ : ∃ L, (digs z.natAbs).length = L := ⟨_, rfl⟩
  obtain ⟨bz, hbz⟩ : ∃ bz, ng z = bz := ⟨_, rfl⟩
  rw [hL, hbz]
  have HLZ := hid hL
  have HBZ := hid hbz
  clear hz hL hbz
  go_enter Try.func8, Try.ntmps8
  go_wp2
  obtain ⟨W2, hW2⟩ : ∃ W2, W2 = (W.alloc (.cells #[] 30)).alloc (.cells #[] 30) := ⟨_, rfl⟩
  have hgW := HI.out.lt
  have hwW := HI.out.below.size
  have HT0 : Hid (TI w W2 g es 0 (.slice (some ⟨W.heap.size, 0, none⟩) 0 0) (.slice (some ⟨W.heap.size + 1, 0, none⟩) 0 0) [] []) := by
    have o1 : Own (W.alloc (.cells #[] 30)) w.heap.size (.slice (some ⟨W.heap.size, 0, none⟩) 0 0) [] := own_empty hwW
    have o2 : Own W2 w.heap.size (.slice (some ⟨W.heap.size + 1, 0, none⟩) 0 0) [] := by
      have := own_empty (w := W.alloc (.cells #[] 30)) (base := w.heap.size) (by simp; omega)
      rw [hW2]
      simpa using this
    have b2 : Below w.heap.size w W2 := by rw [hW2]; exact (HI.out.below.alloc hwW _).alloc (by simp; omega) _
    obtain ⟨b0, r0, n0, c0, hx⟩ := HI.out.box
    have hx2 : W2.heap[g]? = W.heap[g]? := by
      rw [hW2, heap_alloc_old' _ _ g (by simp; omega), heap_alloc_old' _ _ g hgW]
    refine ⟨by rw [hW2]; exact o1.alloc _, o2, Ok.nil, Ok.nil, rfl, by simp, by simp, fun j h1 h2 => ?_, ⟨b2, ⟨b0, r0, n0, c0, hx2.trans hx⟩, HI.out.fresh⟩, fun e => ?_, fun e => ?_⟩
    · have e1 := Option.some.inj h1
      have e2 := Option.some.inj h2
      simp at e1 e2
      omega
    · have e1 := Option.some.inj e
      simp at e1
      omega
    · have e1 := Option.some.inj e
      simp at e1
      omega
  rw [← hW2]
  clear hW2 c00 c01 hgW hwW
  go_loopg [3, 4, 11] n (fun gk s3 s4 s11 wr => ∃ (k : Nat) (P M : List Nat) (p1 p2 : Option Addr) (c1 c2 : Nat), n - k ≤ gk ∧ k ≤ n ∧ s11 = .int .i64 k ∧ s3 = .slice p1 P.length c1 ∧ s4 = .slice p2 M.length c2 ∧ P.length ≤ c1 ∧ c1 ≤ 9223372036854775807 ∧ M.length ≤ c2 ∧ c2 ≤ 9223372036854775807 ∧ Hid (TI w wr g es k s3 s4 P M))
  case atStart => exact ⟨0, [], [], _, _, _, _, Nat.sub_le _ _, Nat.zero_le _, rfl, rfl, rfl, Nat.zero_le _, by omega, Nat.zero_le _, by omega, HT0⟩
  case round =>
    obtain ⟨k, P, M, p1, p2, c1, c2, hgk, hk, rfl, rfl, rfl, hp1, hp2, hm1, hm2, HT⟩ := hrel
    obtain ⟨n1, hn1⟩ : ∃ n1, P.length = n1 := ⟨_, rfl⟩
    obtain ⟨n2, hn2⟩ : ∃ n2, M.length = n2 := ⟨_, rfl⟩
    rw [hn1] at HT hp1 ⊢
    rw [hn2] at HT hm1 ⊢
    have HN1 := hid hn1
    have HN2 := hid hn2
    clear hn1 hn2
    by_cases hlt : k < n
    · obtain ⟨e, he⟩ : ∃ e, es[k]? = some e := ⟨es[k]'(by rw [HL.out.len]; exact hlt), List.getElem?_eq_getElem _⟩
      obtain ⟨b, o, rfl, q1, q2, q3⟩ := HL.out.lie k e he
      have ev : Ev (fun _ => False) w wr := Ev.of_below HT.out.inv.below
      have d1 := cell_ev q1 ev
      have d2 := cell_ev q2 ev
      rw [Nat.mul_comm 2 k] at d1 d2
      have hen := HBB.out k e he
      have HE := hid he
      have q3' := sl_ev q3 (fun _ _ _ _ h => h) ev
      have HS := hid q3'
      have hap : ∀ (v : Value) (X : List Nat), Own wr w.heap.size v X → ∀ bb oo, e.p = some ⟨bb, oo, none⟩ → 0 < e.xs.length → v.ownBlock ≠ some bb := fun v X ho bb oo hbb hpos hv => by
        obtain ⟨b3, o3, e3, hc3⟩ := q3.lie 0 hpos
        rw [hbb] at e3
        have h1 := cell_some_block hc3
        have h2 := (World.ownsRow.lt ho bb hv).1
        cases e3
        simp at h1
        omega
      have HAP := hid hap
      clear hap q1 q2 q3 q3' ev he
      cases hes : e.s with
      | true =>
        rw [hes] at d1
        have HES := hid hes
        clear hes
        have PL := hid (fun (ww : World) (hb : Below wr.heap.size wr ww) => pile_c ww w.heap.size (.slice p2 n2 c2) M e.p e.n e.c e.xs (HT.out.own2.below hb) HT.out.ok2 (Nat.le_trans HT.out.inv.below.size hb.size) (HS.out.below hb) (fun hpos bb oo hbb => HAP.out _ M HT.out.own2 bb oo hbb (by rw [HS.out.len]; exact hpos)) (by have := HT.out.len2; omega) (by omega))
        go_wp2_with (go_at_call 11; refine (PL.out _ (below_alloc _ _)).mono ?_; rintro ee w3 ⟨v', Z, rfl, r1, r2, r3, r4, r5, r6, r7⟩; obtain ⟨p5, c5, rfl, l1, l2⟩ := own_open r1; have HR := hid (And.intro r1 (And.intro r2 (And.intro r3 (And.intro r4 (And.intro r5 (And.intro r6 r7)))))); clear r1 r2 r3 r4 r5 r6 r7)
        go_roundg (n - (k + 1))
        case measure => omega
        case rel =>
          obtain ⟨r1, r2, r3, r4, r5, r6, r7⟩ := HR.out
          have hnx := HT.out.next (w3 := w3) HE.out hen true HES.out r1 r2 r3 r4 r5 r6 r7
          simp only [if_true] at hnx
          exact ⟨k + 1, P, Z, p1, p5, c1, c5, Nat.le_refl _, by omega, by go_num, by rw [HN1.out], rfl, by rw [HN1.out]; exact hp1, hp2, l1, l2, hnx⟩
      | false =>
        rw [hes] at d1
        have HES := hid hes
        clear hes
        have PL := hid (fun (ww : World) (hb : Below wr.heap.size wr ww) => pile_c ww w.heap.size (.slice p1 n1 c1) P e.p e.n e.c e.xs (HT.out.own1.below hb) HT.out.ok1 (Nat.le_trans HT.out.inv.below.size hb.size) (HS.out.below hb) (fun hpos bb oo hbb => HAP.out _ P HT.out.own1 bb oo hbb (by rw [HS.out.len]; exact hpos)) (by have := HT.out.len1; omega) (by omega))
        go_wp2_with (go_at_call 11; refine (PL.out _ (below_alloc _ _)).mono ?_; rintro ee w3 ⟨v', Z, rfl, r1, r2, r3, r4, r5, r6, r7⟩; obtain ⟨p5, c5, rfl, l1, l2⟩ := own_open r1; have HR := hid (And.intro r1 (And.intro r2 (And.intro r3 (And.intro r4 (And.intro r5 (And.intro r6 r7)))))); clear r1 r2 r3 r4 r5 r6 r7)
        go_roundg (n - (k + 1))
        case measure => omega
        case rel =>
          obtain ⟨r1, r2, r3, r4, r5, r6, r7⟩ := HR.out
          have hnx := HT.out.next (w3 := w3) HE.out hen false HES.out r1 r2 r3 r4 r5 r6 r7
          simp only [Bool.false_eq_true, if_false] at hnx
          exact ⟨k + 1, Z, M, p5, p2, c5, c2, Nat.le_refl _, by omega, by go_num, rfl, by rw [HN2.out], l1, l2, by rw [HN2.out]; exact hm1, hm2, hnx⟩
    · have hkn : k = n := by omega
      have hsum : sg false (val P) - sg false (val M) = z := by rw [← HZ.out, ← hkn, ← HT.out.sum]; rfl
      have S1 := HT.out.own1.sl HT.out.ok1
      have S2 := HT.out.own2.sl HT.out.ok2
      obtain ⟨pp1, cc1, ee1, S1⟩ := S1
      obtain ⟨pp2, cc2, ee2, S2⟩ := S2
      simp only [Value.slice.injEq] at ee1 ee2
      obtain ⟨rfl, -, rfl⟩ := ee1
      obtain ⟨rfl, -, rfl⟩ := ee2
      rw [HN1.out] at S1
      rw [HN2.out] at S2
      have N := zsub_c wr false false p1 p2 n1 c1 n2 c2 P M S1 S2 (by have := HT.out.len1; have := HN1.out; omega) (by have := HT.out.len2; have := HN2.out; omega)
      rw [hsum, HLZ.out, HBZ.out] at N
      have HN := hid N
      clear N hsum hkn S1 S2
      go_wp2_with fail
      refine HN.out.mono ?_
      rintro ee w1 ⟨r, cr, rfl, A⟩
      have hI2 := hid (HT.out.inv.call A.below)
      obtain ⟨b3, r3, n3, c3, hx3⟩ := hI2.out.box
      have k0 := hx3.at0
      have k1 := hx3.at1
      have k2 := hx3.frozen 0
      have k3 := hx3.frozen 1
      go_wp2
      have hc0 := (hx3.set bz r L cr).at0
      have hc1 := (hx3.set bz r L cr).at1
      refine bodyPost_ret (by simp [results, Try.results8, go_sem, hc0, hc1]; try rfl) rfl ?_
      exact ⟨r, cr, rfl, hI2.out.fin (w1 := w) A.sl (fun b o e => Nat.lt_of_lt_of_le HT.out.inv.lt (A.fresh b o e)) _ _⟩
end Go.Proofs.Ytnbmpldfbbidmaa
