/-
  zint.Exact, where nothing is left; zint.Near.
-/
import Derived.Test.YteamecapeghnoaaGreatDoorSetF
import Derived.Test.YteamecapeghnoaaGreatDoorSetE
namespace Go.Proofs.YteamecapeghnoaaGreatDoor
open Go.RowKit Nt
set_option linter.unusedSimpArgs false
set_option linter.unusedVariables false
set_option maxRecDepth 20000

/-- One number, and no error. -/
def Fl1 (w : World) (A : Int) (k : Nat) (e : Ending) (w' : World) : Prop := ∃ (b : Bool) (L : Nat) (D : List Nat) (r : Option Addr) (cr : Nat),
  e = .returned (.tuple #[.agg #[.bool b, .slice r L cr], .int .i64 0]) ∧ Below w.heap.size w w' ∧ Hid (Sl w' r L cr D) ∧ Hid (Nm b L D A) ∧ L ≤ k ∧ ∀ b o, r = some ⟨b, o, none⟩ → w.heap.size ≤ b

set_option maxHeartbeats 4000000 in
theorem zexact_c (w : World) (s t : Bool) (p q : Option Addr) (n c m d : Nat) (xs ys : List Nat) (h : Sl w p n c xs) (h' : Sl w q m d ys) (hy : val ys ≠ 0) (h0 : val xs % val ys = 0) (hs : n + 1 ≤ 70368744177663) :
    Calls Tryz.prog 69 #[.agg #[.bool s, .slice p n c], .agg #[.bool t, .slice q m d]] w (Fl1 w (sg (s != t) (val xs / val ys)) n) := by
  obtain ⟨W, g, hg, hW, d1, d2, d3, d4, _, _, HI⟩ := enter2 w s p n c t q m d
  have DV := div_c W p q n c m d xs ys (h.below HI.out.below) (h'.below HI.out.below) hy (by omega)
  rw [h0] at DV
  rw [show (digs 0).length = 0 from rfl] at DV
  have hlq : (digs (val xs / val ys)).length ≤ n := Nat.le_trans (digs_length_mono (Nat.div_le_self _ _)) h.dl
  obtain ⟨q0, hq0⟩ : ∃ q0, val xs / val ys = q0 := ⟨_, rfl⟩
  rw [hq0] at DV hlq ⊢
  obtain ⟨L, hL⟩ : ∃ L, (digs q0).length = L := ⟨_, rfl⟩
  rw [hL] at DV hlq
  have HDV := hid DV
  have HLL := hid hL
  have hgl := HI.out.lt
  have FIN : Hid (∀ (bv : Bool) (r : Option Addr) (cr : Nat) (w' : World), bv = (s != t && decide (0 < L)) → Below w.heap.size w w' → Sl w' r L cr (digs q0) → (∀ b o, r = some ⟨b, o, none⟩ → w.heap.size ≤ b) → Fl1 w (sg (s != t) q0) n (.returned (.tuple #[.agg #[.bool bv, .slice r L cr], .int .i64 0])) w') := by
    intro bv r cr w' hb hB hS hF
    refine ⟨bv, L, digs q0, r, cr, rfl, hB, hS, ⟨?_, by rw [sg_abs], hL⟩, hlq, hF⟩
    rw [hb, ← hL]
    exact sg_ng _ _
  clear h h' hy h0 hq0 hL DV hlq
  cases s <;> cases t
  all_goals
    go_enter Tryz.func69, Tryz.ntmps69
    go_wp2_with fail
    refine HDV.out.mono ?_
    rintro e w1 ⟨rq, cq, rr, cr, rfl, R1, R2, T12⟩
    have HQ : Hid (Sl w1 rq L cq (digs q0)) := by have := R1.sl; rwa [HLL.out] at this
    have FQ := hid (fun b o (e : rq = some ⟨b, o, none⟩) => (R1.own b o e).2.1)
    replace HI := hid (HI.out.call R1.below)
    replace d1 := cell_below d1 R1.below
    replace d3 := cell_below d3 R1.below
    clear R1 R2 T12 HDV d2 d4
    go_wp2_with (go_at_call 62; refine (signed_c _ _ rq L cq (Nat.le_trans HQ.out.cap HQ.out.max)).mono ?_; rintro e w2 ⟨rfl, hBz⟩; have hI2 := hid (HI.out.call hBz); have HQ2 := hid (HQ.out.below hBz); obtain ⟨b3, r3, n3, c3, hx3⟩ := hI2.out.box; have k0 := hx3.at0; have k1 := hx3.at1; have k2 := hx3.frozen 0; have k3 := hx3.frozen 1)
    have hc0 := fun b => (hx3.set b rq L cq).at0
    have hc1 := fun b => (hx3.set b rq L cq).at1
    refine bodyPost_ret (by simp [results, Tryz.results69, go_sem, hc0, hc1]; try rfl) rfl ?_
    exact FIN.out _ rq cq _ (by simp) (hI2.out.set _ _ _ _).below (sl_set HQ2.out (fun b o e => by have := FQ.out b o e; omega)) (fun b o e => by have := FQ.out b o e; have := hI2.out.fresh; omega)
end Go.Proofs.YteamecapeghnoaaGreatDoor
