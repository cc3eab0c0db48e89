/-
 tree.below's iterator.
-/
import Derived.Test.YtdnindaohpdblaaGreatTzD
set_option linter.all false
namespace Go.Proofs.YtdnindaohpdblaaGreat
open Go Go.RowKit Nt
set_option maxRecDepth 20000

set_option maxHeartbeats 8000000 in
theorem below1 (n K MM : Nat) (kd : List Int → List Int) (Pz : List Int → Int → Prop) (φ : List Int → Pr) (ψ : Pr) (hφ : ∀ s, Shp 8 (φ s)) (hψ : Shp 4 ψ) (hn : n ≤ 1048576)
  (cK : ∀ s : List Int, s.length < n → ∀ (M : Nat) (B : Nat → Prop) (w0 : World) (pa pr : Value), M ≤ MM → (∀ k, B k → k < w0.heap.size) → Has B w0 (AtE 8 (φ s)) pa → Has B w0 (AtE 4 ψ) pr → SeqE Tryz.prog 124 #[pa, pr] (fun x : KEl => #[x.v]) (fun m x w => Has (fun k => k < m) w (Zv x.z K) x.v ∧ Pz s x.z) B M (fun xs => xs.map KEl.z = kd s) (fun xs => xs.map KEl.z <+: kd s) w0)
  (cL : ∀ s : List Int, s.length ≤ n → ∀ w u, Hs w (φ s) u → CG 96 #[u] w (IS (.int .i64 ((n - s.length : Nat) : Int))))
  (cC : ∀ (s : List Int) (z : Int), s.length < n → Pz s z → ∀ (B : Nat → Prop) (w : World) (u v : Value), (∀ k, B k → k < w.heap.size) → Has B w (φ s) u → Has B w (Zv z K) v → Calls Tryz.prog 94 #[u, v] w fun e w' => ∃ r, e = .returned r ∧ Below w.heap.size w w' ∧ Has B w' (φ (s ++ [z])) r) :
  ∀ (m : Nat) (s : List Int), s.length + m = n → 0 < m → ∀ (B U0 : Nat → Prop) (w0 : World) (pa pr ps : Value) (M : Nat), M ≤ MM → (∀ k, B k → U0 k) → (∀ k, U0 k → k < w0.heap.size) → Has U0 w0 (AtE 8 (φ s)) pa → Has U0 w0 (AtE 4 ψ) pr → Has U0 w0 (AtE 1 (Vv s.length s K)) ps →
   SeqE Tryz.prog 113 #[pa, pr, ps] (fun x : NEl => #[x.v]) (fun m x w => Has (Vmd U0 w0.heap.size m) w (Vv x.l.length x.l K) x.v ∧ 1 ≤ x.l.length ∧ x.l.length ≤ n) B M (fun xs => xs.map NEl.l = nds kd m s) (fun xs => xs.map NEl.l <+: nds kd m s) w0 := by
 intro m
 induction m with
 | zero => intro s _ h0; omega
 | succ m ih =>
 intro s hs _ B U0 w0 pa pr ps M hMM hBV hV h1 h2 h3 l J Jx w hw hJ hJx hM hY h0
 have hlo : w0.heap.size ≤ w.heap.size := hw.size
 obtain ⟨Vm, eVm⟩ : ∃ Vm, Vm = Vmd U0 w0.heap.size w.heap.size := ⟨_, rfl⟩
 dsimp only at hY
 rw [← eVm] at hY
 have hVm : ∀ k, Vm k → k < w.heap.size := fun k h => by rw [eVm] at h; rcases h with h | h; exact zdi (hV k h) hlo; exact h.2
 have hVV : ∀ k, k < w0.heap.size → Vm k → U0 k := fun k hk h => by rw [eVm] at h; rcases h with h | h; exact h; omega
 have hBm : ∀ k, B k → Vm k := fun k h => by rw [eVm]; exact Or.inl (hBV k h)
 have hBw : ∀ k, B k → k < w.heap.size := fun k h => hVm k (hBm k h)
 have hsn : s.length < n := by omega
 have ev0 : Ev U0 w0 w := ydh hw (fun k _ h => hBV k h)
 have g1 : Has Vm w (AtE 8 (φ s)) pa := yq8 h1 ev0 hVV
 have g2 : Has Vm w (AtE 4 ψ) pr := yq8 h2 ev0 hVV
 have g3 : Has Vm w (AtE 1 (Vv s.length s K)) ps := yq8 h3 ev0 hVV
 have G1 : ∀ X, Ev Vm w X → Has (fun _ => False) X (AtE 8 (Hx Vm (φ s))) pa := fun X e => Has.mono' (yw6 (by decide) (ybf (by decide) (hφ s)) (g1.go e (fun _ _ h => h))) (fun k h => h.elim)
 have G2 : ∀ X, Ev Vm w X → Has (fun _ => False) X (AtE 4 (Hx Vm ψ)) pr := fun X e => Has.mono' (yw6 (by decide) (ybf (by decide) hψ) (g2.go e (fun _ _ h => h))) (fun k h => h.elim)
 have G3 : ∀ X, Ev Vm w X → Has (fun _ => False) X (AtE 1 (Ar 2 (s.length) (s.map (fun z => Hx Vm (Zv z K))))) ps := fun X e => Has.mono' (yzp (by decide) ygz (fun w' u h => by have := (zcc (by decide) zby h).now; rw [List.map_map] at this; exact this) (g3.go e (fun _ _ h => h))) (fun k h => h.elim)
 clear h1 h2 h3 g1 g2 g3
 refine ypf (sl := [(0, Is (.func (.yield l) #[] #[])), (1, Is pa), (2, Is pr), (3, Is ps)]) Tryz.func113 rfl Tryz.ntmps113 (by simp) (yai rfl (ycw _) (yai rfl (ycw _) (yai rfl (ycw _) (yai rfl (ycw _) yat)))) ?_
 intro a0 S0
 refine wq [.new (.box 130 (Is (.func (.yield l) #[] #[])))] [.inl 0] [.inr 1, .inr 2, .inr 3] S0 ?_ ?_
 ·exact jj1 (yrt rfl wA rfl (oS 0 0) rfl (fun ρ w h => yzt ρ _ _ w ((yk5 rfl) _ _ h)))
 intro _ a1 W1 (S1 : Zt [_] [_,_,_])
 have f4 := yo3 (ψ := IS (.func (.yield l) #[] #[])) S1 0 rfl
 have q1 := yar S1 0 rfl; have q2 := yar S1 1 rfl; have q3 := yar S1 2 rfl
 have e1 : Ev Vm w W1 := Ev.of_below S1.ent
 have S10 : Sta W1 39 [] [(1, (AtE 8 (Hx Vm (φ s)))), (2, (AtE 4 (Hx Vm ψ))), (3, (AtE 1 (Ar 2 (s.length) (s.map (fun z => Hx Vm (Zv z K)))))), (4, (FB 130 (IS (.func (.yield l) #[] #[])) w.heap.size)), (1, (Is (pa))), (2, (Is (pr))), (3, (Is (ps)))] (fun _ => False) a1 W1 := ycu S1.siz S1.dfr (yaw (by rw [q1]; exact G1 _ e1) (yaw (by rw [q2]; exact G2 _ e1) (yaw (by rw [q3]; exact G3 _ e1) (yaw ((yb9 (yah _)).has (fun k (h : False) => h.elim) f4) (yaw (yc1 q1) (yaw (yc1 q2) (yaw (yc1 q3) (ygc))))))))
 obtain ⟨a10, ea⟩ : ∃ x, x = a1 := ⟨_, rfl⟩
 rw [← ea] at S10 ⊢
 have hs1 := S1.ent
 clear S1 q1 q2 q3 f4 ea
 refine wp_scope_straight ?_
 refine wp_seq (wp_label ?_)
 refine thenN ?_
 refine wq [V (Hx Vm (φ s)), V (Hx Vm ψ), V (Hx Vm (KF 124 (φ s) ψ))] [] (.inl 2 :: ur7) S10 ?_ ?_
 ·exact jj3 (alA wA yd1 (ye7 (ybf (by decide) (hφ s))) (oS 0 1)) (alA wA ye0 (ye7 (ybf (by decide) hψ)) (oS 1 2)) (yc7 rfl wA rfl (oO 0 8) (oO 1 9) rfl (fun args w => by go_simp) (fun B w2 u v hl hB hu hv => lift2 (zad (hφ s) hψ) hVm B w2 u v (zdf (hs1.size) hl) hB hu hv))
 intro _ a11 W11 (S11 : Sta W1 39 [] [(10, (Hx Vm (KF 124 (φ s) ψ))), (1, (AtE 8 (Hx Vm (φ s)))), (2, (AtE 4 (Hx Vm ψ))), (3, (AtE 1 (Ar 2 (s.length) (s.map (fun z => Hx Vm (Zv z K)))))), (4, (FB 130 (IS (.func (.yield l) #[] #[])) w.heap.size)), (1, (Is (pa))), (2, (Is (pr))), (3, (Is (ps)))] _ _ _)
 have y10 := yar S11 0 rfl; have q1 := yar S11 5 rfl; have q2 := yar S11 6 rfl; have q3 := yar S11 7 rfl; have f4 := yar S11 4 rfl
 have hs2 := S11.ent; have z2 := S11.siz; have d2 := S11.dfr
 clear S11 S10
 obtain ⟨p, q, e10, k1, k2⟩ := zac y10
 obtain ⟨X, eX⟩ : ∃ X, X = W11 := ⟨_, rfl⟩
 rw [← eX] at y10 k1 k2 hs2 f4 ⊢
 obtain ⟨ax, eax⟩ : ∃ x, x = a11 := ⟨_, rfl⟩
 rw [← eax] at y10 e10 q1 q2 q3 f4 z2 d2 ⊢
 have hwX : w.heap.size ≤ X.heap.size := zdf hs1.size hs2.size
 have eX1 : Ev Vm w X := ybb (Ev.of_below hs1) (Ev.of_below hs2)
 have hBX : ∀ k, B k → k < X.heap.size := fun k h => zdi (hBw k h) hwX
 obtain ⟨v4, e4⟩ : ∃ v, ax.eval (.tmp 4) = v := ⟨_, rfl⟩
 rw [e4] at f4
 clear eX eax
 refine wp_block ?_
 refine (wpIn_wide (n := 8)).1 ?_
 refine yr2 (n := 8) (w0 := X) (B := B) (M := M) e10 (enters_of Tryz.func124 (by kernel_rfl) rfl) (cK s hsn M B X p q hMM hBX (Has.mono' k1 hBm) (Has.mono' k2 hBm)) (Ev.refl _ _) (fun x => rfl) hBX (fun m x W W' hE e => ⟨hE.1.go (ydh e (fun k _ h => h.2)) (fun _ _ h => h), hE.2⟩)
  (fun (pre : List KEl) W => Ev B X W ∧ ∃ xs : List NEl, xs.map NEl.l = FL kd m s (pre.map KEl.z) ∧ J xs W) (fun (c : Code) (pre : List KEl) W => c = .exit 0 ∧ ∃ xs : List NEl, xs.map NEl.l <+: FL kd m s (pre.map KEl.z) ∧ Jx xs W) ?hI ?hIx ?hM ?h0 (fun (x : KEl) (a : Act) W => (a.tmps.size = 39 ∧ a.defers = [] ∧ a.eval (.tmp 1) = pa ∧ a.eval (.tmp 2) = pr ∧ a.eval (.tmp 3) = ps ∧ a.eval (.tmp 4) = v4) ∧ ∃ bx, a.eval (.tmp 5) = .pointer (some ⟨bx, 0, none⟩) ∧ X.heap.size ≤ bx ∧ W.heap[bx]? = some (.cells x.v.cells 24 (0, 0))) ?hAx ?assign ?body ?done ?stop
 case hI => exact fun s A A' ⟨hs, xs, h1, h2⟩ hn => ⟨yxk hs hn (zde _), xs, h1, hJ _ _ _ h2 (hn.mono hwX)⟩
 case hIx => exact fun c s A A' ⟨hc, xs, h1, h2⟩ hn => ⟨hc, xs, h1, hJx _ _ _ h2 (hn.mono hwX)⟩
 case hM =>
  rintro pre W ⟨_, xs, h1, h2⟩
  have := hM _ _ h2
  have e := congrArg List.length h1
  rw [zgz] at e
  have := yxm (kd := kd) (m := m) (s := s) (zs := pre.map KEl.z)
  rw [zgz] at this
  omega
 case h0 => exact ⟨Ev.refl _ _, [], rfl, hJ _ _ _ (hJ _ _ _ h0 (Nw.of_below hs1)) (Nw.of_below hs2)⟩
 case hAx => exact fun a' x A A' ⟨⟨b1, b2, b3, b4, b5, b6⟩, bx, b7, b8, b9⟩ hn => ⟨⟨b1, b2, b3, b4, b5, b6⟩, bx, b7, b8, (hn.block bx (zdh.1 b9).1 (Or.inr ⟨_, b9, rfl⟩)).trans b9⟩
 case assign =>
  intro l2 pre x W m2 Kk hI hE hK
  obtain ⟨aa, eaa⟩ : ∃ aa : Act, aa = { tmps := ax.tmps.setIfInBounds 11 x.v, defers := [] } := ⟨_, rfl⟩
  have hz : aa.tmps.size = 39 := by rw [eaa]; simp [z2]
  have ho : ∀ t, t ≠ 11 → aa.eval (.tmp t) = ax.eval (.tmp t) := fun t ht => by rw [eaa]; simp [Act.eval, zgc (Ne.symm ht)]
  have h11 : aa.eval (.tmp 11) = x.v := by rw [eaa]; simp [Act.eval, z2]
  have hd : aa.defers = [] := by rw [eaa]
  rw [show ((#[11].zip ((fun x : KEl => #[x.v]) x)).foldl (fun t (y : Tmp × Value) => t.setIfInBounds y.1 y.2) ax.tmps) = ax.tmps.setIfInBounds 11 x.v from zip1, ← eaa]
  have S20 : Sta W 39 [] [(11, (Is (x.v))), (1, (Is (pa))), (2, (Is (pr))), (3, (Is (ps))), (4, (Is (v4)))] (fun _ => False) aa W := ycu hz hd (yaw (yc1 h11) (yaw (yc1 ((ho 1 (by decide)).trans q1)) (yaw (yc1 ((ho 2 (by decide)).trans q2)) (yaw (yc1 ((ho 3 (by decide)).trans q3)) (yaw (yc1 ((ho 4 (by decide)).trans e4)) (ygc))))))
  obtain ⟨a20, ea⟩ : ∃ x, x = aa := ⟨_, rfl⟩
  rw [← ea] at S20 ⊢
  refine ygw [.new (.box 24 zI),
    .put (.inr 0) (.box 24 (Is (x.v)))] [.inl 0] [.inr 1, .inr 2, .inr 3, .inr 4] follows S20 rfl (by kernel_rfl) ?_ (by kernel_rfl) (fun _ _ h => h) ?_
  ·exact jj2 (nwA wA yal) (puA 0 wA (oS 0 11) yab yau yyu)
  intro _ a21 _ (S21 : Sta W 39 [(5, (.box 24 (Is (x.v))))] [(1, (Is (pa))), (2, (Is (pr))), (3, (Is (ps))), (4, (Is (v4)))] _ _ _)
  refine thenN ?_
  obtain ⟨bx, u, eb, hb1, hb2, hb3⟩ := S21.box (5, .box 24 (Is x.v)) (by simp)
  obtain rfl : u = x.v := hb3.now
  exact hK _ _ S21.ent ⟨⟨S21.siz, S21.dfr, yar S21 0 rfl, yar S21 1 rfl, yar S21 2 rfl, yar S21 3 rfl⟩, bx, eb, zdf hI.1.size (S21.bnd bx hb1).1, hb2⟩
 case body =>
  rintro l2 pre x m2 a' W hl hlm ⟨r0, hr0⟩ ⟨hB, xs, hxs, hj⟩ ⟨hE, hP⟩ ⟨⟨z0, d0, r1, r2, r3, r4⟩, bx, r5, hbx, hbc⟩
  have evW : Ev Vm w W := ybb eX1 (ydh hB (fun k _ h => hBm k h))
  have hXW : X.heap.size ≤ W.heap.size := hB.size
  have f4W := (yb9 (yah _)).ev _ _ _ _ B hBw f4 hB
  have hxW : Has Vm W (Zv x.z K) (.agg #[.bool x.s, .slice x.p x.n x.c]) := Has.mono' hE (fun k h => by have := hVm k h; omega)
  have nbx : ¬ Vm bx := fun h => by have := hVm bx h; omega
  have g5 : Has Vm W (AtE 2 (Zv x.z K)) (.pointer (some ⟨bx, 0, none⟩)) := yhw hxW rfl (Ev.refl _ _) hbc nbx
  have G5 : ∀ Y, Ev Vm W Y → Has (fun _ => False) Y (AtE 2 (Hx Vm (Zv x.z K))) (.pointer (some ⟨bx, 0, none⟩)) := fun Y e => Has.mono' (yw6 (by decide) (ybf (by decide) yaj) (g5.go e (fun _ _ h => h))) (fun k h => h.elim)
  have hVW : ∀ k, Vm k → k < W.heap.size := fun k h => by have := hVm k h; omega
  refine wpIn_block ?_
  have S30 : Sta W 39 [] [(3, (AtE 1 (Ar 2 (s.length) (s.map (fun z => Hx Vm (Zv z K)))))), (5, (AtE 2 (Hx Vm (Zv x.z K)))), (1, (Is (pa))), (2, (Is (pr))), (3, (Is (ps))), (4, (Is (v4))), (5, (Is (.pointer (some ⟨bx, 0, none⟩))))] (fun _ => False) a' W := ycu z0 d0 (yaw (by rw [r3]; exact G3 _ evW) (yaw (by rw [r5]; exact G5 _ (Ev.refl _ _)) (yaw (yc1 r1) (yaw (yc1 r2) (yaw (yc1 r3) (yaw (yc1 r4) (yaw (yc1 r5) (ygc))))))))
  obtain ⟨a30, ea⟩ : ∃ x, x = a' := ⟨_, rfl⟩
  rw [← ea] at S30 ⊢
  clear ea
  refine wpIn_seq (ygw [.val (Ar 2 (s.length) (s.map (fun z => Hx Vm (Zv z K)))),
    .val (Ar 2 (s.length) (s.map (fun z => Hx Vm (Zv z K)))),
    .val (iV (s.length : Nat)),
    .val (Ar 2 (s.length) (s.map (fun z => Hx Vm (Zv z K)))),
    .val (iV (s.length : Nat)),
    .val (ArC 2 (s.length) (s.map (fun z => Hx Vm (Zv z K)))),
    .val (Hx Vm (Zv x.z K)),
    .val (Sng 24 2 (Hx Vm (Zv x.z K)) W.heap.size),
    .val (ArN 2 (s.length + 1) (s.map (fun z => Hx Vm (Zv z K)) ++ [(Hx Vm (Zv x.z K))]) W.heap.size),
    .val (ArN 2 (s.length + 1) (s.map (fun z => Hx Vm (Zv z K)) ++ [(Hx Vm (Zv x.z K))]) W.heap.size)] [] [.inl 9, .inr 0, .inr 1, .inr 2, .inr 3, .inr 4, .inr 5, .inr 6] follows S30 rfl (by kernel_rfl) ?_ (by kernel_rfl) (fun _ _ h => h) ?_)
  ·exact ⟨⟨jj8 (alA wA ybq ygz (oS 0 3)) (alA wA ybq ygz (oS 0 3)) (lnA wA (oO 1 13) Tryz.underlying35) (alA wA ybq ygz (oS 0 3)) (lnA wA (oO 3 15) Tryz.underlying35) (yoj rfl wA rfl (oO 0 12) (oO 2 14) (oO 4 16) rfl) (alA wA ya5 (ye7 (ybf (by decide) yaj)) (oS 1 5)) (yi4 rfl wA rfl ymu (oO 6 18) (ye7 (ybf (by decide) yaj)) rfl), yh2 rfl wA rfl (oO 5 17) yxb (oO 7 19) yn0 Tryz.underlying35 ⟨by unfold maxLen; omega, by omega⟩ rfl⟩, mO 8 20⟩
  intro _ a31 W31 (S31 : Sta W 39 [] [(6, (ArN 2 (s.length + 1) (s.map (fun z => Hx Vm (Zv z K)) ++ [(Hx Vm (Zv x.z K))]) W.heap.size)), (3, (AtE 1 (Ar 2 (s.length) (s.map (fun z => Hx Vm (Zv z K)))))), (5, (AtE 2 (Hx Vm (Zv x.z K)))), (1, (Is (pa))), (2, (Is (pr))), (3, (Is (ps))), (4, (Is (v4))), (5, (Is (.pointer (some ⟨bx, 0, none⟩))))] _ _ _)
  refine thenN ?_
  have q1 := yar S31 3 rfl; have q2 := yar S31 4 rfl; have q3 := yar S31 5 rfl; have q4 := yar S31 6 rfl; have q5 := yar S31 7 rfl
  have y6 := yar S31 0 rfl; have hs6 := S31.ent; have z6 := S31.siz; have d6 := S31.dfr
  obtain ⟨W6, eW⟩ : ∃ Y, Y = W31 := ⟨_, rfl⟩
  rw [← eW] at y6 hs6 ⊢
  obtain ⟨a6, ea⟩ : ∃ Y, Y = a31 := ⟨_, rfl⟩
  rw [← ea] at q1 q2 q3 q4 q5 y6 z6 d6 ⊢
  clear S31 S30 eW ea
  obtain ⟨np, nc, e6⟩ := yqf y6
  obtain ⟨x', hx'⟩ : ∃ y : NEl, y = ⟨s ++ [x.z], np, nc⟩ := ⟨_, rfl⟩
  have l' : x'.l = s ++ [x.z] := by rw [hx']
  have e6' : a6.eval (.tmp 6) = x'.v := by rw [e6, hx']; simp [NEl.v]
  have hE6 : Has Vm W6 (Vv x'.l.length x'.l K) x'.v := by rw [l', ← e6']; exact zcd (lo := W.heap.size) hVW rfl y6
  have eB6 : Ev B W W6 := Ev.of_below hs6
  have f46 := (yb9 (yah _)).ev _ _ _ _ B hBw f4W eB6
  have S40 : Sta W6 39 [] [(4, (FB 130 (IS (.func (.yield l) #[] #[])) w.heap.size)), (6, (Is (x'.v))), (1, (Is (pa))), (2, (Is (pr))), (3, (Is (ps))), (4, (Is (v4))), (5, (Is (.pointer (some ⟨bx, 0, none⟩))))] (fun _ => False) a6 W6 := ycu z6 d6 (yaw (by rw [show a6.eval (.tmp 4) = v4 from q4]; exact (yb9 (yah _)).has (fun k (h : False) => h.elim) f46) (yaw (yc1 e6') (yaw (yc1 q1) (yaw (yc1 q2) (yaw (yc1 q3) (yaw (yc1 q4) (yaw (yc1 q5) (ygc))))))))
  obtain ⟨a40, ea⟩ : ∃ x, x = a6 := ⟨_, rfl⟩
  rw [← ea] at S40 ⊢
  clear ea q1 q2 q3 q4 q5 y6
  refine wpIn_seq ?_
  refine wpIn_seq (ys9 (.inr ⟨_, rfl⟩) (l1 := [_, _]) (l2 := [_, _]) [.val (Is (.func (.yield l) #[] #[])),
    .val (Is (x'.v))] [] [.inl 0, .inl 1, .inr 0, .inr 1, .inr 2, .inr 3, .inr 4, .inr 5, .inr 6] S40 rfl (by kernel_rfl) (by kernel_rfl) (fun _ _ h => h) ?_ ?_)
  ·exact jj2 (alA wA yra (yk5 rfl) ((oS 0 4).imp (yvw rfl))) (mS 1 6)
  intro _ a41 W41 (S41 : Sta W6 39 [] [(21, (Is (.func (.yield l) #[] #[]))), (22, (Is (x'.v))), (4, (FB 130 (IS (.func (.yield l) #[] #[])) w.heap.size)), (6, (Is (x'.v))), (1, (Is (pa))), (2, (Is (pr))), (3, (Is (ps))), (4, (Is (v4))), (5, (Is (.pointer (some ⟨bx, 0, none⟩))))] _ _ _)
  have q1 := yar S41 4 rfl; have q2 := yar S41 5 rfl; have q3 := yar S41 6 rfl; have q4 := yar S41 7 rfl; have q5 := yar S41 8 rfl; have q6 := yar S41 3 rfl; have q21 := yar S41 0 rfl; have q22 := yar S41 1 rfl
  have hs7 := S41.ent; have z7 := S41.siz; have d7 := S41.dfr
  obtain ⟨W7, eW⟩ : ∃ Y, Y = W41 := ⟨_, rfl⟩
  rw [← eW] at hs7 ⊢
  obtain ⟨a7, ea⟩ : ∃ Y, Y = a41 := ⟨_, rfl⟩
  rw [← ea] at q1 q2 q3 q4 q5 q6 q21 q22 z7 d7 ⊢
  clear S41 S40 eW ea
  have eB7 : Ev B W W7 := ybb eB6 (Ev.of_below hs7)
  have hjw := hJ _ _ _ (hJ _ _ _ hj (Nw.of_below hs6)) (Nw.of_below hs7)
  have hE7 : Has Vm W7 (Vv x'.l.length x'.l K) x'.v := hE6.go (Ev.of_below hs7) (fun _ _ h => h)
  have e22 : a7.eval (.tmp 22) = x'.v := q22
  refine ycz rfl (ycc rfl) ?_
  refine yk2 (.inr ⟨_, rfl⟩) rfl q21 (by simp [e22]) (hY xs x' _ hjw ⟨hE7, by rw [l']; simp, by rw [l']; simp; omega⟩) ?_
  rintro e W8 (⟨rfl, hj8, hk8⟩ | ⟨rfl, hx8, hk8⟩)
  ·refine ⟨_, rfl, ?_⟩
   change wpOpsIn _ _ _ _ _ _ (a7.put (some 23) _) W8
   refine ycz rfl (ycc rfl) ?_
   refine yi1 (.inr ⟨_, rfl⟩) rfl (b := true) (ybg (by rw [z7]; decide)) ?_
   refine thenN ?_
   change Code.wpIn _ _ _ _ _ ((a7.put (some 23) _).put (some 24) _) W8
   refine wpIn_cond_false (ybg (by rw [yb3, z7]; decide)) ?_
   refine wpIn_skip ?_
   refine thenN ?_
   refine keep2 (P := fun x => Code.wpIn _ _ _ _ _ x W8) (fun a9 k1' k2' k3' => ?_)
   replace q1 := (k3' 1 (by decide) (by decide)).trans q1
   replace q2 := (k3' 2 (by decide) (by decide)).trans q2
   replace q3 := (k3' 3 (by decide) (by decide)).trans q3
   replace q4 := (k3' 4 (by decide) (by decide)).trans q4
   replace q5 := (k3' 5 (by decide) (by decide)).trans q5
   replace q6 := (k3' 6 (by decide) (by decide)).trans q6
   have eB8 : Ev B W W8 := ybb eB7 hk8
   have ev8 : Ev Vm W W8 := ydh eB8 (fun k _ h => hBm k h)
   have evw8 : Ev Vm w W8 := ybb evW ev8
   have hE8 : Has Vm W8 (Vv (s ++ [x.z]).length (s ++ [x.z]) K) x'.v := by have h := hE7.go (ydh hk8 (fun k _ h => hBm k h)) (fun _ _ h => h); rw [l'] at h; exact h
   have S50 : Sta W8 39 [] [(1, (AtE 8 (Hx Vm (φ s)))), (2, (AtE 4 (Hx Vm ψ))), (5, (AtE 2 (Hx Vm (Zv x.z K)))), (6, (Hx Vm (Vv (s ++ [x.z]).length (s ++ [x.z]) K))), (1, (Is (pa))), (2, (Is (pr))), (3, (Is (ps))), (4, (Is (v4))), (5, (Is (.pointer (some ⟨bx, 0, none⟩))))] (fun _ => False) a9 W8 := ycu (k1'.trans z7) (k2'.trans d7) (yaw (by rw [q1]; exact G1 _ evw8) (yaw (by rw [q2]; exact G2 _ evw8) (yaw (by rw [q5]; exact G5 _ ev8) (yaw (by rw [q6]; exact yv0 hE8) (yaw (yc1 q1) (yaw (yc1 q2) (yaw (yc1 q3) (yaw (yc1 q4) (yaw (yc1 q5) (ygc))))))))))
   obtain ⟨a50, ea⟩ : ∃ x, x = a9 := ⟨_, rfl⟩
   rw [← ea] at S50 ⊢
   clear ea q1 q2 q3 q4 q5 q6 q21 q22
   have hleft : n - s.length = m + 1 := by omega
   by_cases hm0 : m = 0
   ·skip
    refine wpIn_seq ?_
    refine wpIn_seq (ygw [.val (Hx Vm (φ s)),
      .val (iV ((m + 1 : Nat) : Int)),
      kT] [] [.inl 2, .inr 0, .inr 1, .inr 2, .inr 3, .inr 4, .inr 5, .inr 6, .inr 7, .inr 8] follows S50 rfl (by kernel_rfl) ?_ (by kernel_rfl) (fun _ _ h => h) ?_)
    ·exact jj3 (alA wA yd1 (ye7 (ybf (by decide) (hφ s))) (oS 0 1)) (ch1 wA (qO 0 25 rfl) (yah _) (fun w u h1 => by have h := cL s (by omega) w u (fun w' e => Hx.nw (h1 w' e)); rw [hleft] at h; exact h)) (ybt wA (oO 1 26) (yac _))
    intro B51 a51 W51 (S51 : Sta W8 39 [] [(27, bT), (1, (AtE 8 (Hx Vm (φ s)))), (2, (AtE 4 (Hx Vm ψ))), (5, (AtE 2 (Hx Vm (Zv x.z K)))), (6, (Hx Vm (Vv (s ++ [x.z]).length (s ++ [x.z]) K))), (1, (Is (pa))), (2, (Is (pr))), (3, (Is (ps))), (4, (Is (v4))), (5, (Is (.pointer (some ⟨bx, 0, none⟩))))] _ _ _)
    refine thenN ?_
    refine wpIn_cond_true (S51.bool 0 27 rfl) ?_
    refine wpIn_exit (thenX (inBlkE ?_))
    refine ⟨ybb eB8 (Ev.of_below S51.ent), ybb (ybb hB eB8) (Ev.of_below S51.ent), xs ++ [x'], ?_, hJ _ _ _ hj8 (Nw.of_below S51.ent)⟩
    have e0 : nds kd m (s ++ [x.z]) = [] := by rw [hm0]; rfl
    rw [ze6, ze6, zfd, zfd, yg8, hxs, l', e0]
   ·skip
    refine wpIn_seq ?_
    refine wpIn_seq (ygw [.val (Hx Vm (φ s)),
      .val (iV ((m + 1 : Nat) : Int)),
      kF] [] [.inl 2, .inr 0, .inr 1, .inr 2, .inr 3, .inr 4, .inr 5, .inr 6, .inr 7, .inr 8] follows S50 rfl (by kernel_rfl) ?_ (by kernel_rfl) (fun _ _ h => h) ?_)
    ·exact jj3 (alA wA yd1 (ye7 (ybf (by decide) (hφ s))) (oS 0 1)) (ch1 wA (qO 0 25 rfl) (yah _) (fun w u h1 => by have h := cL s (by omega) w u (fun w' e => Hx.nw (h1 w' e)); rw [hleft] at h; exact h)) (yci wA (oO 1 26) (yac _))
    intro B51 a51 W51 (S51 : Sta W8 39 [] [(27, bF), (1, (AtE 8 (Hx Vm (φ s)))), (2, (AtE 4 (Hx Vm ψ))), (5, (AtE 2 (Hx Vm (Zv x.z K)))), (6, (Hx Vm (Vv (s ++ [x.z]).length (s ++ [x.z]) K))), (1, (Is (pa))), (2, (Is (pr))), (3, (Is (ps))), (4, (Is (v4))), (5, (Is (.pointer (some ⟨bx, 0, none⟩))))] _ _ _)
    refine thenN ?_
    refine wpIn_cond_false (S51.bool 0 27 rfl) ?_
    refine wpIn_skip ?_
    refine thenN ?_
    have hs9 := S51.ent
    have q1 := yar S51 5 rfl; have q2 := yar S51 6 rfl; have q3 := yar S51 7 rfl; have q4 := yar S51 8 rfl; have q5 := yar S51 9 rfl
    have z9 := S51.siz; have d9 := S51.dfr
    have eB9 : Ev B W W51 := ybb eB8 (Ev.of_below hs9)
    refine wpIn_seq (ygw [.val (Hx Vm (φ s)),
      .val (Hx Vm (Zv x.z K)),
      .val (Hx Vm (φ (s ++ [x.z]))),
      .val (Hx Vm (Vv (s ++ [x.z]).length (s ++ [x.z]) K)),
      .val (Hx Vm ψ),
      .val (Hx Vm (BF 113 (φ (s ++ [x.z])) ψ (Vv (s ++ [x.z]).length (s ++ [x.z]) K)))] [] [.inl 5, .inr 0, .inr 1, .inr 2, .inr 3, .inr 4, .inr 5, .inr 6, .inr 7, .inr 8, .inr 9] follows S51 rfl (by kernel_rfl) ?_ (by kernel_rfl) (fun _ _ h => h) ?_)
    ·exact jj6 (alA wA yd1 (ye7 (ybf (by decide) (hφ s))) (oS 1 1)) (alA wA ya5 (ye7 (ybf (by decide) yaj)) (oS 3 5)) (yc7 rfl wA rfl (oO 0 28) (oO 1 29) rfl (fun args w => by go_simp) (fun B w2 u v hl hB hu hv => lift2 (cC s x.z hsn hP) hVm B w2 u v (zdf (zdf hwX (zdf hXW ev8.size)) hl) hB hu hv)) (mS 4 6) (alA wA ye0 (ye7 (ybf (by decide) hψ)) (oS 2 2)) (yi8 rfl wA rfl (oO 2 30) (oO 3 31) (oO 4 32) rfl (fun args w => by go_simp) (fun B w2 u v t hl hB hu hv ht => lift3 (fun B w u v t hB hu hv ht => yqh (hφ _) hψ (fun v w h => by obtain ⟨p, c, e⟩ := ygy _ _ h; exact ⟨p, _, c, e⟩) B w u v t hB hu hv ht) hVm B w2 u v t (zdf (zdf hwX (zdf hXW ev8.size)) hl) hB hu hv ht))
    intro _ a52 W52 (S52 : Sta W8 39 [] [(33, (Hx Vm (BF 113 (φ (s ++ [x.z])) ψ (Vv (s ++ [x.z]).length (s ++ [x.z]) K)))), (27, bF), (1, (AtE 8 (Hx Vm (φ s)))), (2, (AtE 4 (Hx Vm ψ))), (5, (AtE 2 (Hx Vm (Zv x.z K)))), (6, (Hx Vm (Vv (s ++ [x.z]).length (s ++ [x.z]) K))), (1, (Is (pa))), (2, (Is (pr))), (3, (Is (ps))), (4, (Is (v4))), (5, (Is (.pointer (some ⟨bx, 0, none⟩))))] _ _ _)
    refine thenN ?_
    have u4 := yar S52 9 rfl
    have y33 := yar S52 0 rfl; have hs10 := S52.ent; have z10 := S52.siz; have d10 := S52.dfr
    obtain ⟨W10, eW⟩ : ∃ Y, Y = W52 := ⟨_, rfl⟩
    rw [← eW] at y33 hs10 ⊢
    obtain ⟨a10', ea⟩ : ∃ Y, Y = a52 := ⟨_, rfl⟩
    rw [← ea] at u4 y33 z10 d10 ⊢
    clear S52 S51 S50 eW ea
    obtain ⟨p', q', t', e33, i1, i2, i3⟩ := yvq y33
    have eB10 : Ev B W W10 := ybb eB8 (Ev.of_below hs10)
    have hl10 : W10.heap[l2]? = some (.loop r0) := yjx eB10 (fun h => by have := hBX l2 h; omega) hr0
    have hw10 : w.heap.size ≤ W10.heap.size := zdf hwX (zdf hXW eB10.size)
    have hB10 : ∀ k, B k → k < W10.heap.size := fun k h => zdi (hBw k h) hw10
    have hj10 := hJ _ _ _ hj8 (Nw.of_below hs10)
    refine wpIn_block ?_
    refine yyh (n := 8) (w0 := W10) (B := B) (M := M) hl10 e33 (enters_of Tryz.func113 (by kernel_rfl) rfl) (ih (s ++ [x.z]) (by simp; omega) (by omega) B Vm W10 p' q' t' M hMM hBm (fun k h => zdi (hVm k h) hw10) i1 i2 i3) (Ev.refl _ _) (fun x => rfl) hB10 (fun m x W W' hE e => ⟨hE.1.go (ydh e (fun k _ h => Or.inr h)) (fun _ _ h => h), hE.2⟩)
     (fun (ys : List NEl) W' => Ev B W10 W' ∧ J (xs ++ [x'] ++ ys) W') (fun (c : Code) (ys : List NEl) W' => c = .exit 0 ∧ Ev (fun k => k < X.heap.size) W10 W' ∧ Jx (xs ++ [x'] ++ ys) W') ?hI2 ?hIx2 ?hM2 ?h02 (fun (y : NEl) (a : Act) (_ : World) => a.tmps.size = 39 ∧ a.defers = [] ∧ a.eval (.tmp 4) = v4 ∧ a.eval (.tmp 7) = y.v) ?hAx2 ?assign2 ?body2 ?done2 ?stop2
    case hI2 => exact fun s A A' ⟨h1, h2⟩ hn => ⟨yxk h1 hn (zde _), hJ _ _ _ h2 (hn.mono hw10)⟩
    case hIx2 => exact fun c s A A' ⟨hc, h1, h2⟩ hn => ⟨hc, yxk h1 hn (zde _), hJx _ _ _ h2 (hn.mono hw10)⟩
    case hM2 => exact fun ys W' ⟨_, h2⟩ => by have := hM _ _ h2; simp at this; omega
    case h02 => exact ⟨Ev.refl _ _, by rw [zd1]; exact hj10⟩
    case hAx2 => exact fun a' x A A' h hn => h
    case assign2 =>
     intro l3 ys y Y m3 Kk hI hE hK
     obtain ⟨aa, eaa⟩ : ∃ aa : Act, aa = { tmps := a10'.tmps.setIfInBounds 34 y.v, defers := [] } := ⟨_, rfl⟩
     have hz : aa.tmps.size = 39 := by rw [eaa]; simp [z10]
     have ho : ∀ t, t ≠ 34 → aa.eval (.tmp t) = a10'.eval (.tmp t) := fun t ht => by rw [eaa]; simp [Act.eval, zgc (Ne.symm ht)]
     have h34 : aa.eval (.tmp 34) = y.v := by rw [eaa]; simp [Act.eval, z10]
     have hd : aa.defers = [] := by rw [eaa]
     rw [show ((#[34].zip ((fun x : NEl => #[x.v]) y)).foldl (fun t (y : Tmp × Value) => t.setIfInBounds y.1 y.2) a10'.tmps) = a10'.tmps.setIfInBounds 34 y.v from zip1, ← eaa]
     have S60 : Sta Y 39 [] [(34, (Is (y.v))), (4, (Is (v4)))] (fun _ => False) aa Y := ycu hz hd (yaw (yc1 h34) (yaw (yc1 ((ho 4 (by decide)).trans u4)) (ygc)))
     obtain ⟨a60, ea⟩ : ∃ x, x = aa := ⟨_, rfl⟩
     rw [← ea] at S60 ⊢
     refine ygw [.val (Is (y.v))] [] [.inl 0, .inr 1] follows S60 rfl (by kernel_rfl) ?_ (by kernel_rfl) (fun _ _ h => h) ?_
     ·exact jj1 (mS 0 34)
     intro _ a61 _ (S61 : Sta Y 39 [] [(7, (Is (y.v))), (4, (Is (v4)))] _ _ _)
     refine thenN ?_
     exact hK _ _ S61.ent ⟨S61.siz, S61.dfr, yar S61 1 rfl, yar S61 0 rfl⟩
    case body2 =>
     rintro l3 ys y m3 ab Y hl3 hlm3 _ ⟨hBY, hjY⟩ ⟨hEY, hEl⟩ ⟨z0', d0', r4', r7'⟩
     have f4Y := (yb9 (yah _)).ev _ _ _ _ B hBw f46 (ybb (ybb (Ev.of_below hs7) hk8) (ybb (Ev.of_below hs10) hBY))
     have hEm : Has Vm Y (Vv y.l.length y.l K) y.v := Has.mono' hEY (fun k h => Or.inl h)
     refine wpIn_block ?_
     have S70 : Sta Y 39 [] [(4, (FB 130 (IS (.func (.yield l) #[] #[])) w.heap.size)), (7, (Is (y.v)))] (fun _ => False) ab Y := ycu z0' d0' (yaw (by rw [r4']; exact (yb9 (yah _)).has (fun k (h : False) => h.elim) f4Y) (yaw (yc1 r7') (ygc)))
     obtain ⟨a70, ea⟩ : ∃ x, x = ab := ⟨_, rfl⟩
     rw [← ea] at S70 ⊢
     refine wpIn_seq (ys9 (.inr ⟨_, rfl⟩) (l1 := [_, _]) (l2 := [_, _]) [.val (Is (.func (.yield l) #[] #[])),
       .val (Is (y.v))] [] [.inl 0, .inl 1, .inr 0] S70 rfl (by kernel_rfl) (by kernel_rfl) (fun _ _ h => h) ?_ ?_)
     ·exact jj2 (alA wA yra (yk5 rfl) ((oS 0 4).imp (yvw rfl))) (mS 1 7)
     intro _ a71 W71 (S71 : Sta Y 39 [] [(35, (Is (.func (.yield l) #[] #[]))), (36, (Is (y.v))), (4, (FB 130 (IS (.func (.yield l) #[] #[])) w.heap.size))] _ _ _)
     have q35 := yar S71 0 rfl; have e36 := yar S71 1 rfl
     have hsY := S71.ent; have zY := S71.siz
     obtain ⟨Y7, eW⟩ : ∃ Z, Z = W71 := ⟨_, rfl⟩
     rw [← eW] at hsY ⊢
     obtain ⟨b7, ea2⟩ : ∃ Z, Z = a71 := ⟨_, rfl⟩
     rw [← ea2] at q35 e36 zY ⊢
     clear S71 S70 eW ea2
     have e36' : b7.eval (.tmp 36) = y.v := e36
     refine ycz rfl (ycc rfl) ?_
     refine yk2 (.inr ⟨_, rfl⟩) rfl q35 (by simp [e36']) (hY _ y _ (hJ _ _ _ hjY (Nw.of_below hsY)) ⟨hEm.go (Ev.of_below hsY) (fun _ _ h => h), hEl⟩) ?_
     rintro e W8 (⟨rfl, hj9, hk9⟩ | ⟨rfl, hx9, hk9⟩)
     ·refine ⟨_, rfl, ?_⟩
      change wpOpsIn _ _ _ _ _ _ (b7.put (some 37) _) W8
      refine ycz rfl (ycc rfl) ?_
      refine yi1 (.inr ⟨_, rfl⟩) rfl (b := true) (ybg (by rw [zY]; decide)) ?_
      refine thenN ?_
      change Code.wpIn _ _ _ _ _ ((b7.put (some 37) _).put (some 38) _) W8
      refine wpIn_cond_false (ybg (by rw [yb3, zY]; decide)) ?_
      refine wpIn_skip ?_
      refine inBlkN ?_
      exact ⟨ybb (Ev.of_below hsY) hk9, ybb hBY (ybb (Ev.of_below hsY) hk9), by rw [← zdt]; exact hj9⟩
     ·refine ⟨_, rfl, ?_⟩
      change wpOpsIn _ _ _ _ _ _ (b7.put (some 37) _) W8
      refine ycz rfl (ycc rfl) ?_
      refine yi1 (.inr ⟨_, rfl⟩) rfl (b := false) (ybg (by rw [zY]; decide)) ?_
      refine thenN ?_
      change Code.wpIn _ _ _ _ _ ((b7.put (some 37) _).put (some 38) _) W8
      refine wpIn_cond_true (ybg (by rw [yb3, zY]; decide)) ?_
      refine wpIn_exit (inBlkX (by decide) ?_)
      have eo : Ev (fun k => k < X.heap.size) Y W8 := ybb (Ev.of_below hsY) (ydh hk9 (fun k _ h => zdi h hwX))
      exact ⟨ydh eo (fun k _ h => zdi h (zdf hXW eB10.size)), rfl, ybb (ydh hBY (fun k _ h => hBX k h)) eo, by rw [← zdt]; exact hx9⟩
    case done2 =>
     intro ys Y hS ⟨hBY, hjY⟩
     refine inBlkN (inBlkN ⟨ybb eB10 hBY, ybb hB (ybb eB10 hBY), xs ++ [x'] ++ ys, ?_, hjY⟩)
     rw [ze6, ze6, ze6, zfd, zfd, yg8, hxs, l', hS, zdt]
     rfl
    case stop2 =>
     rintro c ys Y ⟨rr, hSp⟩ ⟨rfl, he, hjx⟩
     refine wpIn_exit (inBlkX (by decide) (inBlkX (by decide) ?_))
     refine ⟨ybb (ydh eB10 (fun k _ h => hBX k h)) he, rfl, xs ++ [x'] ++ ys, ⟨rr, ?_⟩, hjx⟩
     rw [ze6, ze6, ze6, zfd, zfd, yg8, hxs, l', ← hSp, zdt, zdt]
     rfl
  ·refine ⟨_, rfl, ?_⟩
   change wpOpsIn _ _ _ _ _ _ (a7.put (some 23) _) W8
   refine ycz rfl (ycc rfl) ?_
   refine yi1 (.inr ⟨_, rfl⟩) rfl (b := false) (ybg (by rw [z7]; decide)) ?_
   refine thenN ?_
   change Code.wpIn _ _ _ _ _ ((a7.put (some 23) _).put (some 24) _) W8
   refine wpIn_cond_true (ybg (by rw [yb3, z7]; decide)) ?_
   refine wpIn_exit (thenX (inBlkX (by decide) ?_))
   have eo : Ev (fun k => k < X.heap.size) W W8 := ybb (ydh eB7 (fun k _ h => hBX k h)) (ydh hk8 (fun k _ h => zdi h hwX))
   refine ⟨eo, rfl, xs ++ [x'], ⟨nds kd m (s ++ [x.z]), ?_⟩, hx8⟩
   rw [ze6, ze6, zfd, zfd, yg8, hxs, l', zdt]
   rfl
 case done =>
  intro D pre W hD hS ⟨hB', xs, hxs, hj⟩ hdef
  refine inBlkN ?_
  show LeavesInM _ _ _ _ _ _ (_ :: ax.defers) _ _
  rw [d2]
  exact ⟨by simp, .inl ⟨_, _, rfl, run_takeDeferred hdef, _, results_none rfl _ _ _, ⟨_, rfl⟩, .inl ⟨xs, by show xs.map NEl.l = nds kd (m + 1) s; rw [hxs, show pre.map KEl.z = kd s from hS]; rfl, hJ _ _ _ hj (Nw.putObj _ (zdf hwX hD) hdef rfl)⟩⟩⟩
 case stop =>
  rintro D c pre W hD hSp ⟨rfl, xs, hxs, hjx⟩ hdef
  refine wpIn_exit (inBlkE ?_)
  show LeavesInM _ _ _ _ _ _ (_ :: ax.defers) _ _
  rw [d2]
  exact ⟨by simp, .inl ⟨_, _, rfl, run_takeDeferred hdef, _, results_none rfl _ _ _, ⟨_, rfl⟩, .inr ⟨xs, hxs.trans (yxn hSp), hJx _ _ _ hjx (Nw.putObj _ (zdf hwX hD) hdef rfl)⟩⟩⟩
end Go.Proofs.YtdnindaohpdblaaGreat
