/-
  NatNames: the calls on the road of that law, and its walk.
-/
import Derived.Test.YtgjkfegdnemjfabDoorCmp
namespace Go.Proofs.YtgjkfegdnemjfabDoor
open Go.RowKit Nt
set_option linter.unusedSimpArgs false

/-- Sub, where b is above a. -/
theorem sub_below (w : World) (p q : Option Addr) (n c m d : Nat) (xs ys : List Nat) (hn : xs.length = n) (hc : n ≤ c) (hm : c ≤ maxLen) (ho : Ok xs) (hx : Limbs w p xs)
    (hn' : ys.length = m) (hc' : m ≤ d) (hm' : d ≤ maxLen) (ho' : Ok ys) (hx' : Limbs w q ys) (hlt : val xs < val ys) :
    Calls Tryd.prog 19 #[.slice p n c, .slice q m d] w fun e w' => e = .returned (.tuple #[.slice none 0 0, .int .i64 10]) ∧ ∃ nq, w' = w.drewN nq := by
  have C := hid (cmp_c w p q n c m d xs ys hn hc hm ho hx hn' hc' hm' ho' hx')
  have e : cmpN (val xs) (val ys) = -1 := by simp [cmpN, hlt]
  rw [e] at C
  clear e hlt hx hx' ho ho' hn hn'
  go_enter Tryd.func19, Tryd.ntmps19
  go_wp2_with fail
  refine C.out.mono ?_
  rintro e w' ⟨rfl, nq, rfl⟩
  go_wp2
  go_ret2
  exact ⟨rfl, dr1 _ _⟩

/-- Div, where b is 0. -/
theorem div_zero (w : World) (p q : Option Addr) (n c m d : Nat) (xs ys : List Nat) (hn : xs.length = n) (hc : n ≤ c) (hm : c ≤ maxLen) (ho : Ok xs) (hx : Limbs w p xs)
    (hn' : ys.length = m) (hc' : m ≤ d) (hm' : d ≤ maxLen) (ho' : Ok ys) (hx' : Limbs w q ys) (h0 : val ys = 0) :
    Calls Tryd.prog 21 #[.slice p n c, .slice q m d] w fun e w' => e = .returned (.tuple #[.slice none 0 0, .slice none 0 0, .int .i64 11]) ∧ w' = w := by
  have T1 := hid (trim_c w p n c xs hn hc hm ho hx)
  have T2 := hid (trim_k w q m d 0 ys (by rw [h0]; rfl) hn' hc' hm' ho' hx')
  clear h0 hx hx' ho ho' hn hn'
  go_enter Tryd.func21, Tryd.ntmps21
  go_wp2_with fail
  refine T1.out.mono ?_
  rintro e w' ⟨rfl, rfl⟩
  go_wp2_with fail
  refine T2.out.mono ?_
  rintro e w' ⟨rfl, rfl⟩
  go_wp2
  go_ret3
  exact ⟨rfl, rfl⟩

theorem error_four (w : World) :
    Calls Tryd.prog 28 #[.int .i64 4] w fun e w' => e = .returned (.string ⟨#[101, 114, 114, 111, 114, 32, 52]⟩) ∧ w' = w := by
  go_enter Tryd.func28, Tryd.ntmps28
  go_wp2
  go_ret
  exact ⟨rfl, rfl⟩

/-- One block of one limb. -/
theorem limbs_one {w : World} {g : Nat} {t : TypeId} {fr : Nat × Nat} {x : Nat} (h : w.heap[g]? = some (.cells #[.int .u32 x] t fr)) : Limbs w (some ⟨g, 0, none⟩) [x] :=
  Limbs.of_block (pre := []) (xs := [x]) (post := []) h

theorem okL_one {x : Nat} (h : x < 4294967296) : Ok [x] := Ok.cons h Ok.nil

theorem heap_alloc_at (w : World) (o : Obj) : (w.alloc o).heap[w.heap.size]? = some o := by
  show (w.heap.push o)[w.heap.size]? = _
  simp
theorem heap_alloc_old (w : World) (o : Obj) (k : Nat) (h : k < w.heap.size) : (w.alloc o).heap[k]? = w.heap[k]? := Below.heap_alloc w o k h

set_option maxHeartbeats 1000000 in
theorem names_walk (w : World) :
    Calls Tryd.prog 8 #[] w fun e w' => e = .returned (.bool true) ∧ Grown w w' := by
  have C1 := hid (sub_below ((w.alloc (.cells #[.int .u32 1] 40)).alloc (.cells #[.int .u32 2] 40)) (some ⟨w.heap.size, 0, none⟩) (some ⟨w.heap.size + 1, 0, none⟩) 1 1 1 1 [1] [2] rfl (by omega) (by unfold maxLen; omega)
    (okL_one (by omega)) (limbs_one (by rw [heap_alloc_old _ _ _ (by simp)]; exact heap_alloc_at _ _)) rfl (by omega) (by unfold maxLen; omega) (okL_one (by omega)) (limbs_one (by have := heap_alloc_at (w.alloc (.cells #[.int .u32 1] 40)) (.cells #[.int .u32 2] 40); simpa using this)) (by simp [val]))
  have C2 : Hid (∀ W : World, Calls Tryd.prog 21 #[.slice (some ⟨W.heap.size, 0, none⟩) 1 1, .slice none 0 0] (W.alloc (.cells #[.int .u32 1] 40)) fun e w' => e = .returned (.tuple #[.slice none 0 0, .slice none 0 0, .int .i64 11]) ∧ w' = W.alloc (.cells #[.int .u32 1] 40)) := fun W =>
    div_zero (W.alloc (.cells #[.int .u32 1] 40)) (some ⟨W.heap.size, 0, none⟩) none 1 1 0 0 [1] [] rfl (by omega) (by unfold maxLen; omega)
    (okL_one (by omega)) (limbs_one (heap_alloc_at _ _)) rfl (by omega) (by unfold maxLen; omega) Ok.nil (Limbs.nil _ _) rfl
  go_enter Tryd.func8, Tryd.ntmps8
  go_wp2_with fail
  refine C1.out.mono ?_
  rintro e w' ⟨rfl, nq, rfl⟩
  generalize hW : ((w.alloc (.cells #[.int .u32 1] 40)).alloc (.cells #[.int .u32 2] 40)).drewN nq = W
  have HW : Hid (Grown w W) := by rw [← hW]; exact grown_drewN (((Grown.refl w).alloc _ _).alloc _ _) nq
  clear hW C1
  go_wp2_with fail
  refine (C2.out W).mono ?_
  rintro e w' ⟨rfl, rfl⟩
  go_wp2_with (go_at_call 28; refine (error_four _).mono ?_; rintro e w' ⟨rfl, rfl⟩)
  go_ret
  exact ⟨rfl, HW.out.alloc _ _⟩
end Go.Proofs.YtgjkfegdnemjfabDoor
