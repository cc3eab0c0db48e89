import Derived.Test.YtdnindaohpdblaaGreatRsC
import Derived.Test.YtdnindaohpdblaaGreatRsB
set_option linter.all false
namespace Go.Proofs.YtdnindaohpdblaaGreat
open Go.RowKit Nt
set_option maxRecDepth 20000
set_option maxHeartbeats 16000000


theorem zb5 (w : World) (s t : Bool) (p q : Option Addr) (n c m d : Nat) (xs ys : List Nat) (h : Sl w p n c xs) (h' : Sl w q m d ys) (hs : n + 1 ≤ 70368744177664) (hs' : m + 1 ≤ 70368744177664) :
  Calls Tryz.prog 97 #[.agg #[.bool s, .slice p n c], .agg #[.bool t, .slice q m d]] w fun e w' => ∃ r cr, e = .returned (.agg #[.bool false, .slice r (digs (Nat.gcd (val xs) (val ys))).length cr]) ∧ Below w.heap.size w w' ∧ Sl w' r (digs (Nat.gcd (val xs) (val ys))).length cr (digs (Nat.gcd (val xs) (val ys))) ∧ ∀ b o, r = some ⟨b, o, none⟩ → w.heap.size ≤ b := by
 obtain ⟨W, g, hg, hW, a0, a1, b0, b1, _, _, HI⟩ := enter2 w s p n c t q m d
 have GC := zck W p q n c m d xs ys (h.below HI.out.below) (h'.below HI.out.below) hs hs'
 obtain ⟨G, hG⟩ : ∃ G, Nat.gcd (val xs) (val ys) = G := ⟨_, rfl⟩
 obtain ⟨L, hL⟩ : ∃ L, (digs G).length = L := ⟨_, rfl⟩
 rw [hG, hL] at GC
 rw [hG, hL]
 have HGC := hid GC
 have HL := hid hL
 have hgl := HI.out.lt
 clear h h' GC hG hL
 go_enter Tryz.func97, Tryz.ntmps97
 go_wp2_with fail
 refine HGC.out.mono ?_
 rintro e w1 ⟨r, cr, rfl, R1⟩
 have HI1 := hid (HI.out.call R1.below)
 have HS : Hid (Sl w1 r L cr (digs G)) := by have := R1.sl; rwa [HL.out] at this
 have HF := hid (fun b o (e : r = some ⟨b, o, none⟩) => (R1.own b o e).2.1)
 clear R1 HGC a0 a1 b0 b1
 go_wp2_with (go_at_call 85; refine (yb1 _ false r L cr (zdf HS.out.cap HS.out.max)).mono ?_; rintro e w2 ⟨rfl, hBz⟩; have hI2 := hid (HI1.out.call hBz); have HS2 := hid (HS.out.below hBz); obtain ⟨b3, r3, n3, c3, hx3⟩ := hI2.out.box; have k0 := hx3.at0; have k1 := hx3.at1; have k2 := hx3.frozen 0; have k3 := hx3.frozen 1)
 have hc0 := fun b => (hx3.set b r L cr).at0
 have hc1 := fun b => (hx3.set b r L cr).at1
 refine bodyPost_ret (by simp [results, Tryz.results97, go_sem, hc0, hc1]; try rfl) rfl ?_
 exact ⟨r, cr, by simp, (hI2.out.set _ _ _ _).below, yct HS2.out (fun b o e => by have := HF.out b o e; omega), fun b o e => by have := HF.out b o e; omega⟩

end Go.Proofs.YtdnindaohpdblaaGreat
