/-
  RatNames: the calls on the road of that law, and its walk.
-/
import Derived.Test.YtbgnakdklojhpabSlices
import Derived.Deep.RegionHeld3
import Derived.Handy
namespace Go.Proofs.Ytbgnakdklojhpab
open Go.RowKit Nt
set_option linter.unusedSimpArgs false
set_option linter.unusedVariables false

theorem below_alloc' (w : World) (o : Obj) : Below w.heap.size w (w.alloc o) := (Below.refl _ _).alloc (Nat.le_refl _) _

theorem bits_nil (w : World) : Calls Try.prog 12 #[.slice none 0 0] w fun e w' => e = .returned (.int .i64 0) ∧ w' = w := by
  have T := hid (trim_s w none 0 0 0 [] rfl (Sl.none w))
  go_enter Try.func12, Try.ntmps12
  go_wp2_with fail
  refine T.out.mono ?_
  rintro e w' ⟨rfl, rfl⟩
  go_wp2
  go_ret
  exact ⟨rfl, rfl⟩

theorem sign_nil (w : World) : Calls Try.prog 7 #[.agg #[.bool false, .slice none 0 0]] w fun e w' => e = .returned (.int .i64 0) ∧ Below w.heap.size w w' := by
  have B := hid (fun W => bits_nil W)
  have HG := hid (below_alloc' w (.cells #[.bool false, .slice none 0 0] 24))
  go_enter Try.func7, Try.ntmps7
  go_wp2_with fail
  refine (B.out _).mono ?_
  rintro e w' ⟨rfl, rfl⟩
  go_wp2
  go_ret
  exact ⟨rfl, HG.out⟩

theorem rat_at0 {w : World} {g : Nat} {a b c d : Value} {t : TypeId} (h : w.heap[g]? = some (.cells #[a, b, c, d] t)) : w.cell? ⟨g, 0, none⟩ = some a := by simp [World.cell?, h]
theorem rat_at1 {w : World} {g : Nat} {a b c d : Value} {t : TypeId} (h : w.heap[g]? = some (.cells #[a, b, c, d] t)) : w.cell? ⟨g, 1, none⟩ = some b := by simp [World.cell?, h]
theorem rat_at2 {w : World} {g : Nat} {a b c d : Value} {t : TypeId} (h : w.heap[g]? = some (.cells #[a, b, c, d] t)) : w.cell? ⟨g, 2, none⟩ = some c := by simp [World.cell?, h]
theorem rat_at3 {w : World} {g : Nat} {a b c d : Value} {t : TypeId} (h : w.heap[g]? = some (.cells #[a, b, c, d] t)) : w.cell? ⟨g, 3, none⟩ = some d := by simp [World.cell?, h]

theorem mayBe_nil (W : World) (g : Nat) (h : W.heap[g]? = some (.cells #[.bool false, .slice none 0 0, .bool false, .slice none 0 0] 29)) : Calls Try.prog 5 #[.slice (some ⟨g, 0, none⟩) 1 1] W fun e w' => e = .returned (.bool false) ∧ Below W.heap.size W w' := by
  have B := hid (fun W => sign_nil W)
  have c0 := rat_at0 h
  have c1 := rat_at1 h
  have c2 := rat_at2 h
  have c3 := rat_at3 h
  clear h
  go_enter Try.func5, Try.ntmps5
  go_wp2
  go_loopw [7] (fun i wr => i = .int .i64 0 ∧ wr = W) (fun _ _ => 1)
  case atStart => exact ⟨rfl, rfl⟩
  case round =>
    obtain ⟨rfl, rfl⟩ := hrel
    go_wp2_with (go_at_call 7; refine (B.out _).mono ?_; rintro e w' ⟨rfl, hB⟩)
    go_ret
    exact ⟨rfl, ((below_alloc' _ _).trans (hB.mono (by simp)))⟩

/-- A number's struct in its own block. -/
def Bx (w : World) (g : Nat) (neg : Bool) (p : Option Addr) (n c : Nat) : Prop := w.heap[g]? = some (.cells #[.bool neg, .slice p n c] 24)
theorem Bx.below {w w' : World} {g n c : Nat} {neg : Bool} {p : Option Addr} (h : Bx w g neg p n c) (hb : Below w.heap.size w w') : Bx w' g neg p n c :=
  (hb.block g (Array.getElem?_eq_some_iff.1 h).1).trans h
theorem Bx.at0 {w : World} {g n c : Nat} {neg : Bool} {p : Option Addr} (h : Bx w g neg p n c) : w.cell? ⟨g, 0, none⟩ = some (.bool neg) := by
  have h' : w.heap[g]? = _ := h
  simp [World.cell?, h']
theorem Bx.at1 {w : World} {g n c : Nat} {neg : Bool} {p : Option Addr} (h : Bx w g neg p n c) : w.cell? ⟨g, 1, none⟩ = some (.slice p n c) := by
  have h' : w.heap[g]? = _ := h
  simp [World.cell?, h']
theorem Bx.frozen {w : World} {g n c : Nat} {neg : Bool} {p : Option Addr} (h : Bx w g neg p n c) (i : Nat) : w.frozen? ⟨g, i, none⟩ = false := by
  have h' : w.heap[g]? = _ := h
  simp [World.frozen?, h']
theorem Bx.set {w : World} {g n c : Nat} {neg : Bool} {p : Option Addr} (h : Bx w g neg p n c) (neg' : Bool) (p' : Option Addr) (n' c' : Nat) :
    Bx ((w.setCell ⟨g, 0, none⟩ (.bool neg')).setCell ⟨g, 1, none⟩ (.slice p' n' c')) g neg' p' n' c' := by
  have h' : w.heap[g]? = _ := h
  have e := setCell_eq_setRow w g 0 _ _ _ (.bool neg') h'
  have hb : (w.setCell ⟨g, 0, none⟩ (.bool neg')).heap[g]? = some (.cells #[.bool neg', .slice p n c] 24) := by
    rw [e]
    have := setRow_heap w g _ (#[.bool neg', .slice p n c]) _ _ h'
    simpa using this
  have e2 := setCell_eq_setRow _ g 1 _ _ _ (.slice p' n' c') hb
  show _ = _
  rw [e2]
  have := setRow_heap _ g _ (#[.bool neg', .slice p' n' c']) _ _ hb
  simpa using this
theorem bx_alloc (w : World) (neg : Bool) (p : Option Addr) (n c : Nat) : Bx (w.alloc (.cells #[.bool neg, .slice p n c] 24)) w.heap.size neg p n c := heap_alloc_last _ _

set_option maxHeartbeats 1000000 in
theorem floor_nil (w : World) : Calls Try.prog 4 #[.agg #[.bool false, .slice none 0 0, .bool false, .slice none 0 0]] w fun e w' => e = .returned (.tuple #[.agg #[.bool false, .slice none 0 0], .int .i64 30]) ∧ Below w.heap.size w w' := by
  have B1 := below_alloc' w (.cells #[.bool false, .slice none 0 0, .bool false, .slice none 0 0] 29)
  have B2 := below_alloc' (w.alloc (.cells #[.bool false, .slice none 0 0, .bool false, .slice none 0 0] 29)) (.cells #[.bool false, .slice none 0 0] 24)
  have B3 := below_alloc' ((w.alloc (.cells #[.bool false, .slice none 0 0, .bool false, .slice none 0 0] 29)).alloc (.cells #[.bool false, .slice none 0 0] 24)) (.cells #[.bool false, .slice none 0 0, .bool false, .slice none 0 0] 29)
  have X := (bx_alloc (w.alloc (.cells #[.bool false, .slice none 0 0, .bool false, .slice none 0 0] 29)) false none 0 0).below B3
  rw [show (w.alloc (.cells #[.bool false, .slice none 0 0, .bool false, .slice none 0 0] 29)).heap.size = w.heap.size + 1 from by simp] at X
  have L := heap_alloc_last ((w.alloc (.cells #[.bool false, .slice none 0 0, .bool false, .slice none 0 0] 29)).alloc (.cells #[.bool false, .slice none 0 0] 24)) (.cells #[.bool false, .slice none 0 0, .bool false, .slice none 0 0] 29)
  rw [show ((w.alloc (.cells #[.bool false, .slice none 0 0, .bool false, .slice none 0 0] 29)).alloc (.cells #[.bool false, .slice none 0 0] 24)).heap.size = w.heap.size + 1 + 1 from by simp] at L
  have M := hid (mayBe_nil _ _ L)
  have HB := hid (B1.trans ((B2.trans (B3.mono B2.size)).mono B1.size))
  have HX := hid X
  clear B1 B2 B3 X L
  go_enter Try.func4, Try.ntmps4
  go_wp2_with fail
  refine M.out.mono ?_
  rintro e w2 ⟨rfl, hB⟩
  have hx3 := HX.out.below hB
  have hB' := hid (HB.out.trans (hB.mono HB.out.size))
  have k0 := hx3.at0
  have k1 := hx3.at1
  have k2 := hx3.frozen 0
  have k3 := hx3.frozen 1
  clear M HX HB hB
  go_wp2
  have hc0 := (hx3.set false none 0 0).at0
  have hc1 := (hx3.set false none 0 0).at1
  refine bodyPost_ret (by simp [results, Try.results4, go_sem, hc0, hc1]; try rfl) rfl ?_
  exact ⟨rfl, (hB'.out.setCell (by simp) _).setCell (by simp) _⟩

set_option maxHeartbeats 1000000 in
theorem ratNames_walk (w : World) : Calls Try.prog 3 #[] w fun e w' => e = .returned (.bool true) ∧ Below w.heap.size w w' := by
  have F := hid (fun W => floor_nil W)
  go_enter Try.func3, Try.ntmps3
  go_wp2_with fail
  refine (F.out _).mono ?_
  rintro e w2 ⟨rfl, hB⟩
  go_wp2
  go_ret
  exact ⟨rfl, hB.alloc hB.size _⟩
end Go.Proofs.Ytbgnakdklojhpab
