/-
  The document's power of two, in new memory.
-/
import Derived.Test.YtejhbjcgacblfaaConts
import Derived.Test.YtejhbjcgacblfaaRefShift
namespace Go.Proofs.Ytejhbjcgacblfaa
open Go Go.RowKit Nt
set_option linter.unusedSimpArgs false
set_option linter.unusedVariables false

set_option maxHeartbeats 4000000 in
theorem rtwo_f (w : World) (x : Nat) (hx : x ≤ 562949953421312) :
    Calls Try.prog 48 #[.int .i64 x] w (Gives (NR (List.replicate (x / 32) 0 ++ [2 ^ (x % 32)])) w) := by
  obtain ⟨skip, hskip⟩ : ∃ skip, x / 32 = skip := ⟨_, rfl⟩
  obtain ⟨s, hs⟩ : ∃ s, x % 32 = s := ⟨_, rfl⟩
  obtain ⟨P, hP⟩ : ∃ P, 2 ^ s = P := ⟨_, rfl⟩
  have hsb : s < 32 := by omega
  have hPi : (2 : Int) ^ s = (P : Int) := by rw [← hP]; simp
  have hP1 : P ≤ 2147483648 := by rw [← hP]; exact Nat.pow_le_pow_right (n := 2) (by omega) (show s ≤ 31 by omega)
  have hq : (x : Int) / 32 = (skip : Int) := by omega
  have hr : (x : Int) % 32 = (s : Int) := by omega
  have hsk : skip ≤ 17592186044416 := by omega
  rw [hskip, hs, hP]
  clear hskip hs hP
  go_enter Try.func48, Try.ntmps48
  go_wp2_with fail
  go_loopw [3, 4] (fun v i wr => ∃ k : Nat, k ≤ skip ∧ i = .int .i64 k ∧ Hid (Own wr w.heap.size v (List.replicate k 0) ∧ Below w.heap.size w wr)) (fun _ i _ => skip - (intOf i).toNat)
  case atStart => exact ⟨0, Nat.zero_le _, rfl, Own.nil _ _, Below.refl _ _⟩
  case round =>
    obtain ⟨k, hk, rfl, HK⟩ := hrel
    by_cases hlt : k < skip
    · go_wp2_with (at_builtin; refine append_u32 _ rfl (.tmp 11) (.tmp 12) rfl w.heap.size _ (List.replicate k 0) rfl (HK.out.1.alloc _) ⟨wr.heap.size, 0, none⟩ 1 1 [0] rfl rfl (limbs_lit wr 0 rfl) (by simp; omega) (by have := HK.out.2.size; simp; omega) ?_; intro v' w2 hown' hbel; have HN := hid hown'; have HNB := hid ((HK.out.2.alloc HK.out.2.size _).trans hbel); clear hown' hbel)
      go_roundw
      case rel => exact ⟨k + 1, by omega, by go_num, by rw [List.replicate_succ']; exact HN.out, HNB.out⟩
      case measure => simp [intOf]; omega
    · have hks : k = skip := by omega
      subst hks
      go_wp2_with (at_builtin; refine append_u32 _ rfl (.tmp 14) (.tmp 19) rfl w.heap.size _ (List.replicate k 0) rfl (HK.out.1.alloc _) ⟨wr.heap.size, 0, none⟩ 1 1 [P] rfl rfl (limbs_lit wr P (by first | rfl | omega | (simp [IntKind.wrap_u32]; omega))) (by simp; omega) (by have := HK.out.2.size; simp; omega) ?_; intro v' w2 hown' hbel; have HOWN := hid hown'; have HNB := hid ((HK.out.2.alloc HK.out.2.size _).trans hbel); clear hown' hbel)
      go_ret
      exact ⟨_, rfl, HNB.out, row_nr ((Ok.replicate k).snoc (by omega)) _ _ _ HOWN.out rfl⟩

theorem two_row (x : Nat) : val (List.replicate (x / 32) 0 ++ [2 ^ (x % 32)]) = 2 ^ x := by
  rw [val_append, val_replicate, List.length_replicate, val_one, Nat.zero_add, show (4294967296 : Nat) = 2 ^ 32 from rfl, ← Nat.pow_mul, ← Nat.pow_add]
  congr 1
  omega
/-- A magnitude in new memory, of so many limbs at most. -/
def NW (m k : Nat) : Nat → Pr := fun lo v w => ∃ xs, NR xs lo v w ∧ val xs = m ∧ xs.length ≤ k
theorem fresh_nw (m k : Nat) : Fresh (NW m k) :=
  ⟨fun lo lo' v w hl ⟨xs, h, e⟩ => ⟨xs, (fresh_nr xs).1 lo lo' v w hl h, e⟩, fun lo v w w' B hB ⟨xs, h, e⟩ ev => ⟨xs, (fresh_nr xs).2 lo v w w' B hB h ev, e⟩⟩
theorem nw_nv {m k lo : Nat} : ∀ v w, NW m k lo v w → Nv m k v w := fun v w ⟨xs, h, e, hk⟩ => nr_nv e hk v w h
theorem g_rtwo1 {x : Nat} (hx : x ≤ 562949953421312) : ∀ w u, Is (.int .i64 (x : Nat)) u w → Calls Try.prog 48 #[u] w (Gives (NW (2 ^ x) (x / 32 + 1)) w) := by
  rintro w u e
  obtain rfl : u = _ := e
  refine (rtwo_f w x hx).mono ?_
  rintro e w' ⟨v, rfl, hb, h⟩
  exact ⟨v, rfl, hb, _, h, two_row x, by simp⟩
theorem g_rbits1 {x k : Nat} (hk : k ≤ 288230376151711743) : ∀ w u, Nv x k u w → Calls Try.prog 44 #[u] w (Gives (IS (.int .i64 (Go.bitLen x : Nat))) w) := by
  rintro w u ⟨p, n, c, xs, rfl, h, rfl, hn⟩
  refine (rbits_c w p n c xs h (by omega)).mono ?_
  rintro e w' ⟨rfl, rfl⟩
  exact ⟨_, rfl, Below.refl _ _, rfl⟩
theorem run_shl1 (ρ : Operand → Value) (o : Oper) (x y : Operand) (w : World) (s P : Nat) (hs : s < 32) (hP : 2 ^ s = P) (h1 : ρ x = .int .u32 1) (h2 : ρ y = .int .i64 s) : (execOp ρ { o with op := .binOp .shl 44 x y 3 }).run Try.prog w = .ok (.value (.int .u32 P)) w := by
  have hP1 : P ≤ 2147483648 := by rw [← hP]; exact Nat.pow_le_pow_right (n := 2) (by omega) (show s ≤ 31 by omega)
  have hPi : (2 : Int) ^ s = (P : Int) := by rw [← hP]; simp
  have h5 : IntKind.u32.wrap (P : Int) = (P : Int) := by rw [IntKind.wrap_u32]; omega
  unfold execOp
  go_simp
end Go.Proofs.Ytejhbjcgacblfaa
