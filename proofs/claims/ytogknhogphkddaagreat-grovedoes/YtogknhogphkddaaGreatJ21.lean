/- Joined: Gx6, Gx7, Gx8, Gx9, Gx10. -/
import Derived.Test.YtogknhogphkddaaGreatJ20
import Derived.Deep.LoopGhost
/- A grove's cut in memory: look: a contract. -/
namespace Go.Proofs.YtogknhogphkddaaGreat
open Go.RowKit W Kp Stl

structure Tk (own : Nat → Nat) (w : World) (own' : Nat → Nat) (w' : World) : Prop where
  fr : Fr (fun b => own b ≠ 0) w w'
  nw : ∀ b, own' b ≠ 0 → own b ≠ 0 ∨ w.heap.size ≤ b

section
variable {c : Cp} {own own' own'' : Nat → Nat} {vt vt' : Value} {n1 n2 n1' n2' : Nat} {hm hm' : Int → Option Addr × Nat} {st st' : Cst} {F : Nat → Prop} {w w' w'' : World}

theorem Tm.tk (t : Tm own w own' w') : Tk own w own' w' := ⟨t.fr.mono (fun b hb => by omega), fun b hb => by
  by_cases e : b < w.heap.size
  · rw [t.old b e] at hb
    exact Or.inl hb
  · exact Or.inr (by omega)⟩
theorem Tk.of (h : Below w.heap.size w w') : Tk own w own w' := ⟨Fr.of h, fun _ h => Or.inl h⟩
theorem Tk.trans (h : Tk own w own' w') (k : Tk own' w' own'' w'') : Tk own w own'' w'' := ⟨h.fr.trans k.fr h.nw, fun b hb => (k.nw b hb).elim (h.nw b) (fun d => Or.inr (Nat.le_trans h.fr.size d))⟩

structure Cg (c : Cp) : Prop where
  g : Gvy c.gp c.most c.grow c.l c.s c.w0
  t : c.s.T.length ≤ 10000
  iv : Wiv c.s.T c.s.wt
  wl : c.s.wt.length ≤ 90000
structure Hok_ (c : Cp) (st : Cst) : Prop where
  len : st.A.length = c.s.T.length
  hv : ∀ x, ∀ v ∈ st.hd x, v.1 = 3 → 0 ≤ v.2 ∧ Alv c.s.T v.2.toNat
  hl : ∀ x, (st.hd x).length ≤ 20000
  m : st.m ≤ 20000

theorem Cm.flds (hg : Cg c) (h : Cm c own vt n1 n2 hm st w) {i : Nat} (hi : Alv c.s.T i) : Rdl own w (c.l.fm i).1 (c.s.T.getD i t0).2.1 := by
  have hr := (h.gv hg.g).g2.fl i hi
  refine ⟨row_pairs hr, fun hp z e d => ?_⟩
  obtain ⟨b, cp, e2⟩ := row_shape hr hp
  have hb : z.block = b := by
    dsimp only [fsV] at e2
    rw [e] at e2
    injection e2 with e3
    injection e3 with e4
    rw [e4]
  have h1 := hg.g.g2.fo i hi b (by rw [e2]; rfl)
  have h2 := hg.g.lt b (by omega)
  rw [hb] at d
  have h3 := (h.lt b (by omega)).1
  omega
theorem heldX (hg : Cg c) (h : Cm c own vt n1 n2 hm st w) (hk : Hok_ c st) (x : Int) (x0 : 0 ≤ x) (x1 : x < 10000) : ∃ ad cap, w.cell? ⟨c.cp, 3, none⟩ = some (.map (some c.hb)) ∧ (Instr.lookup 136 (.map (some c.hb)) (.int .i64 x) false).run Tryz.prog w = .ok (.slice ad (st.hd x).length cap) w ∧
    Calls Tryz.prog 83 #[.pointer (some ⟨c.cp, 0, none⟩), .slice ad (st.hd x).length cap] w fun e w' => ∃ own' vt' n1', e = .returned (.tuple #[]) ∧ Cm c own' vt' n1' n2 hm (mks st (st.hd x)) w' ∧ Tm own w own' w' := by
  obtain ⟨ad, cap, ehv, hrow, hown⟩ := h.hrow x
  obtain ⟨_, _, _, q3, _, _⟩ := h.cells
  have L := h.hq.look (t := 136) (e := 38) Tryz.underlying136 (zeroVs _) (x := x) x0 (by omega)
  rw [show (hdF st.hd hm x).getD (.slice none 0 0) = _ from ehv] at L
  refine ⟨ad, cap, q3, L, markX_any hg.g hg.t hk.len h ad cap (st.hd x) ⟨row_pairs hrow, fun hp z e d => ?_⟩ (hk.hv x) (by have := hk.hl x; omega)⟩
  have := hown z.block (by rw [e]; rfl)
  omega

def Endx (c : Cp) (own : Nat → Nat) (w : World) (x : Int) (st1 : Cst) (w1 : World) : Prop := ∃ ad n cap, w1.cell? ⟨c.cp, 3, none⟩ = some (.map (some c.hb)) ∧ (Instr.lookup 136 (.map (some c.hb)) (.int .i64 x) false).run Tryz.prog w1 = .ok (.slice ad n cap) w1 ∧
  Calls Tryz.prog 83 #[.pointer (some ⟨c.cp, 0, none⟩), .slice ad n cap] w1 fun e w' => ∃ own' vt' n1' n2' hm', e = .returned (.tuple #[]) ∧ Cm c own' vt' n1' n2' hm' (mks st1 (st1.hd x)) w' ∧ Tk own w own' w'
theorem endx (hg : Cg c) (h : Cm c own' vt n1 n2 hm st w') (hk : Hok_ c st) (t : Tk own w own' w') (x : Int) (x0 : 0 ≤ x) (x1 : x < 10000) : Endx c own w x st w' := by
  obtain ⟨ad, cap, q3, L, P⟩ := heldX hg h hk x x0 x1
  refine ⟨ad, _, cap, q3, L, P.mono ?_⟩
  rintro e w2 ⟨own2, vt2, n12, rfl, g, t2⟩
  exact ⟨own2, vt2, n12, n2, hm, rfl, g, t.trans t2.tk⟩
theorem Hok_.marks (h : Hok_ c st) (l : List (Int × Int)) : Hok_ c (mks st l) := by
  obtain ⟨a, b, d⟩ := mks_hd st l
  exact ⟨d.trans h.len, by rw [a]; exact h.hv, by rw [a]; exact h.hl, by rw [b]; exact h.m⟩

set_option maxRecDepth 100000 in
set_option maxHeartbeats 4000000 in
theorem lookX12 (hg : Cg c) (h : Cm c own vt n1 n2 hm st w) (hk : Hok_ c st) (x : Int) (x0 : 0 ≤ x) (hx : Ls_ st.A x.toNat) (hxa : Alv c.s.T x.toNat) (k12 : (c.s.T.getD x.toNat t0).1 = 1 ∨ (c.s.T.getD x.toNat t0).1 = 2) :
    Calls Tryz.prog 97 #[.pointer (some ⟨c.cp, 0, none⟩), .int .i64 x] w fun e w' => ∃ own' vt' n1' n2' hm', e = .returned (.tuple #[]) ∧ Cm c own' vt' n1' n2' hm' (lkC c.s.T c.s.wt st x) w' ∧ Tk own w own' w' := by
  have xl : x < 10000 := by have := hxa.1; have := hg.t; omega
  have L := h.am.look (t := 47) (e := 76) Tryz.underlying47 (zeroTh w) (x := x) x0 (by omega)
  rw [show alF c.s.T c.l.fm st.A x = some (thV c.s.T c.l.fm x.toNat) from by unfold alF; rw [if_pos ⟨x0, hx⟩]] at L
  dsimp only [Option.getD, thV, fsV] at L
  obtain ⟨_, c1, _, _, _, lc⟩ := h.cells
  have b1 := (Below.refl w.heap.size w).alloc (Nat.le_refl _) (.cells #[.int .i64 (c.s.T.getD x.toNat t0).1, .slice (c.l.fm x.toNat).1 (c.s.T.getD x.toNat t0).2.1.length (c.l.fm x.toNat).2] 76)
  have P := markX_any hg.g hg.t hk.len (h.below b1) _ (c.l.fm x.toNat).2 _ ((h.below b1).flds hg hxa) (fun v hv h3 => hg.iv.fv _ hxa v hv h3) (by have := hg.iv.tl x.toNat; omega)
  have e1 : lkC c.s.T c.s.wt st x = mks (mks st (c.s.T.getD x.toNat t0).2.1) ((mks st (c.s.T.getD x.toNat t0).2.1).hd x) := by
    unfold lkC lkb
    rw [if_pos k12]
  rw [e1]
  have HE : Hid (∀ own1 vt1 n11 w1, Cm c own1 vt1 n11 n2 hm (mks st (c.s.T.getD x.toNat t0).2.1) w1 → Tk own w own1 w1 → Endx c own w x (mks st (c.s.T.getD x.toNat t0).2.1) w1) := fun own1 vt1 n11 w1 g t => endx hg g (hk.marks _) t x x0 xl
  have HB : Hid (Below w.heap.size w (w.alloc (.cells #[.int .i64 (c.s.T.getD x.toNat t0).1, .slice (c.l.fm x.toNat).1 (c.s.T.getD x.toNat t0).2.1.length (c.l.fm x.toNat).2] 76))) := b1
  clear hg h hk hx hxa e1 b1
  generalize mks st (c.s.T.getD x.toNat t0).2.1 = st1 at *
  generalize (c.s.T.getD x.toNat t0).1 = kd at *
  generalize (c.s.T.getD x.toNat t0).2.1.length = n at *
  generalize (c.l.fm x.toNat).1 = ad at *
  generalize (c.l.fm x.toNat).2 = cp at *
  rcases k12 with rfl | rfl
  all_goals
    go_enter Tryz.func97, Tryz.ntmps97
    go_wp2_with fail
    refine P.mono ?_
    clear P
    rintro e w1 ⟨own1, vt1, n11, rfl, g, t⟩
    obtain ⟨ad2, n2_, cap2, q3, L2, P2⟩ := HE.out own1 vt1 n11 w1 g ((Tk.of HB.out).trans t.tk)
    clear HE HB g t L c1
    go_wp2_with fail
    refine P2.mono ?_
    clear P2
    rintro e w2 ⟨own2, vt2, n12, n22, hm2, rfl, g2, t2⟩
    have HF : Hid (_ ∧ _) := ⟨g2, t2⟩
    clear g2 t2 q3 L2
    go_wp2_with fail
    go_end0
    exact ⟨own2, vt2, n12, n22, hm2, rfl, HF.out.1, HF.out.2⟩
end

end Go.Proofs.YtogknhogphkddaaGreat

/- A grove's cut in memory: look at weak pairs, ephemerons, and others: contracts. -/
namespace Go.Proofs.YtogknhogphkddaaGreat
open Go.RowKit W Kp Stl

section
variable {c : Cp} {own own' own'' : Nat → Nat} {vt vt' : Value} {n1 n2 n1' n2' : Nat} {hm hm' : Int → Option Addr × Nat} {st st' : Cst} {F : Nat → Prop} {w w' w'' : World}

abbrev thC (c : Cp) (x : Int) : Obj := .cells #[.int .i64 (c.s.T.getD x.toNat t0).1, .slice (c.l.fm x.toNat).1 (c.s.T.getD x.toNat t0).2.1.length (c.l.fm x.toNat).2] 76
theorem look_th (h : Cm c own vt n1 n2 hm st w) (x : Int) (x0 : 0 ≤ x) (xl : x < 10000) (hx : Ls_ st.A x.toNat) : (Instr.lookup 47 (.map (some c.ab)) (.int .i64 x) false).run Tryz.prog w = .ok (.agg #[.int .i64 (c.s.T.getD x.toNat t0).1, .slice (c.l.fm x.toNat).1 (c.s.T.getD x.toNat t0).2.1.length (c.l.fm x.toNat).2]) w := by
  have L := h.am.look (t := 47) (e := 76) Tryz.underlying47 (zeroTh w) (x := x) x0 (by omega)
  rw [show alF c.s.T c.l.fm st.A x = some (thV c.s.T c.l.fm x.toNat) from by unfold alF; rw [if_pos ⟨x0, hx⟩]] at L
  exact L

set_option maxRecDepth 100000 in
set_option maxHeartbeats 4000000 in
theorem lookX0 (hg : Cg c) (h : Cm c own vt n1 n2 hm st w) (hk : Hok_ c st) (x : Int) (x0 : 0 ≤ x) (hx : Ls_ st.A x.toNat) (hxa : Alv c.s.T x.toNat) (k0 : ¬ ((c.s.T.getD x.toNat t0).1 = 1 ∨ (c.s.T.getD x.toNat t0).1 = 2)) (k3 : ¬ (c.s.T.getD x.toNat t0).1 = 3) (k4 : ¬ (c.s.T.getD x.toNat t0).1 = 4) (k5 : ¬ (c.s.T.getD x.toNat t0).1 = 5) :
    Calls Tryz.prog 97 #[.pointer (some ⟨c.cp, 0, none⟩), .int .i64 x] w fun e w' => ∃ own' vt' n1' n2' hm', e = .returned (.tuple #[]) ∧ Cm c own' vt' n1' n2' hm' (lkC c.s.T c.s.wt st x) w' ∧ Tk own w own' w' := by
  have xl : x < 10000 := by have := hxa.1; have := hg.t; omega
  have L := look_th h x x0 xl hx
  obtain ⟨_, c1, _, _, _, lc⟩ := h.cells
  have b1 := (Below.refl w.heap.size w).alloc (Nat.le_refl _) (thC c x)
  have e1 : lkC c.s.T c.s.wt st x = mks st (st.hd x) := by
    unfold lkC lkb
    rw [if_neg k0, if_neg k3, if_neg k4, if_neg k5]
  rw [e1]
  have HE := endx hg (h.below b1) hk (Tk.of b1) x x0 xl
  dsimp only [thC] at HE
  clear hg h hk hx hxa e1 b1
  generalize (c.s.T.getD x.toNat t0).1 = kd at *
  generalize (c.s.T.getD x.toNat t0).2.1.length = n at *
  generalize (c.l.fm x.toNat).1 = ad at *
  generalize (c.l.fm x.toNat).2 = cp at *
  have k1 : ¬ kd = 1 := fun e => k0 (Or.inl e)
  have k2 : ¬ kd = 2 := fun e => k0 (Or.inr e)
  obtain ⟨ad2, n2_, cap2, q3, L2, P2⟩ := HE
  clear k0
  go_enter Tryz.func97, Tryz.ntmps97
  go_wp2_with fail
  refine P2.mono ?_
  clear P2
  rintro e w2 ⟨own2, vt2, n12, n22, hm2, rfl, g2, t2⟩
  have HF : Hid (_ ∧ _) := ⟨g2, t2⟩
  clear g2 t2 q3 L2
  go_wp2_with fail
  go_end0
  exact ⟨own2, vt2, n12, n22, hm2, rfl, HF.out.1, HF.out.2⟩

set_option maxRecDepth 100000 in
set_option maxHeartbeats 4000000 in
theorem lookX3 (hg : Cg c) (h : Cm c own vt n1 n2 hm st w) (hk : Hok_ c st) (x : Int) (x0 : 0 ≤ x) (hx : Ls_ st.A x.toNat) (hxa : Alv c.s.T x.toNat) (k3 : (c.s.T.getD x.toNat t0).1 = 3) :
    Calls Tryz.prog 97 #[.pointer (some ⟨c.cp, 0, none⟩), .int .i64 x] w fun e w' => ∃ own' vt' n1' n2' hm', e = .returned (.tuple #[]) ∧ Cm c own' vt' n1' n2' hm' (lkC c.s.T c.s.wt st x) w' ∧ Tk own w own' w' := by
  have xl : x < 10000 := by have := hxa.1; have := hg.t; omega
  have L := look_th h x x0 xl hx
  obtain ⟨_, c1, _, _, _, lc⟩ := h.cells
  have b1 := (Below.refl w.heap.size w).alloc (Nat.le_refl _) (thC c x)
  have l2 : (c.s.T.getD x.toNat t0).2.1.length = 2 := hg.iv.fl _ hxa (Or.inl k3)
  obtain ⟨b, o, ead, lb, hcl⟩ := (h.flds hg hxa).lp (by omega)
  obtain ⟨z0, z1⟩ := hcl 1 (by omega)
  have hv1 : ((c.s.T.getD x.toNat t0).2.1.getD 1 (0, 0)).1 = 3 → 0 ≤ ((c.s.T.getD x.toNat t0).2.1.getD 1 (0, 0)).2 ∧ Alv c.s.T ((c.s.T.getD x.toNat t0).2.1.getD 1 (0, 0)).2.toNat := fun h3 => hg.iv.fv _ hxa _ (getD_in (by omega)) h3
  have e1 : lkC c.s.T c.s.wt st x = mks (mks st [(c.s.T.getD x.toNat t0).2.1.getD 1 (0, 0)]) ((mks st [(c.s.T.getD x.toNat t0).2.1.getD 1 (0, 0)]).hd x) := by
    unfold lkC lkb
    rw [if_neg (by omega), if_pos k3]
    rfl
  rw [e1]
  dsimp only [thC] at b1
  rw [k3, l2, ead] at L b1
  generalize (c.s.T.getD x.toNat t0).2.1.getD 1 (0, 0) = v at *
  generalize (c.l.fm x.toNat).2 = cp at *
  obtain ⟨v0, v1⟩ := v
  dsimp only at z0 z1 hv1
  have b2 := b1.alloc b1.size (.cells #[.int .i64 v0, .int .i64 v1] 54)
  have P := markX_any hg.g hg.t hk.len (h.below b2) (some ⟨(w.alloc (.cells #[.int .i64 3, .slice (some ⟨b, o, none⟩) 2 cp] 76)).heap.size, 0, none⟩) 1 [(v0, v1)] (Rdl.one (h.below b1) (v0, v1)) (fun u hu h3 => by simp at hu; rw [hu] at h3 ⊢; exact hv1 h3) (by simp)
  have HE : Hid (∀ own1 vt1 n11 w1, Cm c own1 vt1 n11 n2 hm (mks st [(v0, v1)]) w1 → Tk own w own1 w1 → Endx c own w x (mks st [(v0, v1)]) w1) := fun own1 vt1 n11 w1 g t => endx hg g (hk.marks _) t x x0 xl
  have HB : Hid (Below w.heap.size w ((w.alloc (.cells #[.int .i64 3, .slice (some ⟨b, o, none⟩) 2 cp] 76)).alloc (.cells #[.int .i64 v0, .int .i64 v1] 54))) := b2
  rw [show (w.alloc (.cells #[.int .i64 3, .slice (some ⟨b, o, none⟩) 2 cp] 76)).heap.size = w.heap.size + 1 by simp] at P
  have nb : b ≠ w.heap.size := by omega
  clear hg h hk hx hxa e1 b1 b2 hcl k3 l2 hv1 ead
  generalize mks st [(v0, v1)] = st1 at *
  go_enter Tryz.func97, Tryz.ntmps97
  go_wp2_with fail
  refine P.mono ?_
  clear P
  rintro e w1 ⟨own1, vt1, n11, rfl, g, t⟩
  obtain ⟨ad2, n2_, cap2, q3, L2, P2⟩ := HE.out own1 vt1 n11 w1 g ((Tk.of HB.out).trans t.tk)
  clear HE HB g t L c1 z0 z1
  go_wp2_with fail
  refine P2.mono ?_
  clear P2
  rintro e w2 ⟨own2, vt2, n12, n22, hm2, rfl, g2, t2⟩
  have HF : Hid (_ ∧ _) := ⟨g2, t2⟩
  clear g2 t2 q3 L2
  go_wp2_with fail
  go_end0
  exact ⟨own2, vt2, n12, n22, hm2, rfl, HF.out.1, HF.out.2⟩

end

end Go.Proofs.YtogknhogphkddaaGreat

/- A grove's cut in memory: look at ephemerons and guardians: contracts; look whole. -/
namespace Go.Proofs.YtogknhogphkddaaGreat
open Go.RowKit W Kp Stl

section
variable {c : Cp} {own own' own'' : Nat → Nat} {vt vt' : Value} {n1 n2 n1' n2' : Nat} {hm hm' : Int → Option Addr × Nat} {st st' : Cst} {F : Nat → Prop} {w w' w'' : World}

theorem Cg.fb (hg : Cg c) {i b o : Nat} (hi : Alv c.s.T i) (hp : 0 < (c.s.T.getD i t0).2.1.length) (e : (c.l.fm i).1 = some ⟨b, o, none⟩) : b < c.w0.heap.size := by
  obtain ⟨b', cp, e2⟩ := row_shape (hg.g.g2.fl i hi) hp
  have h1 := hg.g.lt b' (by rw [hg.g.g2.fo i hi b' (by rw [e2]; rfl)]; omega)
  dsimp only [fsV] at e2
  rw [e] at e2
  have e3 := (Value.slice.inj e2).1
  have e4 := Option.some.inj e3
  have e5 : b = b' := congrArg Addr.block e4
  rw [e5]
  exact h1
theorem ephemX_any (hg : Cg c) (h : Cm c own vt n1 n2 hm st w) (hk : Hok_ c st) (k v : Int × Int) (hkk : k.1 = 3 → 0 ≤ k.2 ∧ Alv c.s.T k.2.toNat) (hv : v.1 = 3 → 0 ≤ v.2 ∧ Alv c.s.T v.2.toNat) :
    Calls Tryz.prog 109 #[.pointer (some ⟨c.cp, 0, none⟩), .agg #[.int .i64 k.1, .int .i64 k.2], .agg #[.int .i64 v.1, .int .i64 v.2]] w fun e w' => ∃ own' vt' n1' n2' hm', e = .returned (.tuple #[]) ∧ Cm c own' vt' n1' n2' hm' (lke st k v) w' ∧ Tk own w own' w' := by
  unfold lke
  cases hi : inS st.A k
  · refine (ephemX_no h k v (fun h3 => ⟨(hkk h3).1, by have := (hkk h3).2.1; have := hg.t; omega⟩) hi hk.m (hk.hl _)).mono ?_
    rintro e w' ⟨own', hm', rfl, g, f1, f2⟩
    exact ⟨own', vt, n1, n2 + 1, hm', rfl, g, f1, f2⟩
  · refine (ephemX_in hg.g hg.t hk.len h k v hkk hv hi).mono ?_
    rintro e w' ⟨own', vt', n1', rfl, g, t⟩
    exact ⟨own', vt', n1', n2, hm, rfl, g, t.tk⟩

set_option maxRecDepth 100000 in
set_option maxHeartbeats 4000000 in
theorem lookX4 (hg : Cg c) (h : Cm c own vt n1 n2 hm st w) (hk : Hok_ c st) (x : Int) (hk2 : Hok_ c (lkb c.s.T c.s.wt st x)) (x0 : 0 ≤ x) (hx : Ls_ st.A x.toNat) (hxa : Alv c.s.T x.toNat) (k4 : (c.s.T.getD x.toNat t0).1 = 4) :
    Calls Tryz.prog 97 #[.pointer (some ⟨c.cp, 0, none⟩), .int .i64 x] w fun e w' => ∃ own' vt' n1' n2' hm', e = .returned (.tuple #[]) ∧ Cm c own' vt' n1' n2' hm' (lkC c.s.T c.s.wt st x) w' ∧ Tk own w own' w' := by
  have xl : x < 10000 := by have := hxa.1; have := hg.t; omega
  have L := look_th h x x0 xl hx
  obtain ⟨_, c1, _, _, _, lc⟩ := h.cells
  have b1 := (Below.refl w.heap.size w).alloc (Nat.le_refl _) (thC c x)
  have l2 : (c.s.T.getD x.toNat t0).2.1.length = 2 := hg.iv.fl _ hxa (Or.inr k4)
  obtain ⟨b, o, ead, lb, hcl⟩ := (h.flds hg hxa).lp (by omega)
  obtain ⟨y0, y1⟩ := hcl 0 (by omega)
  obtain ⟨z0, z1⟩ := hcl 1 (by omega)
  have hv0 := key_ok hg.iv hxa k4 0 (by decide)
  have hv1 := key_ok hg.iv hxa k4 1 (by decide)
  have e0 : lkb c.s.T c.s.wt st x = lke st ((c.s.T.getD x.toNat t0).2.1.getD 0 (0, 0)) ((c.s.T.getD x.toNat t0).2.1.getD 1 (0, 0)) := by
    unfold lkb
    rw [if_neg (by omega), if_neg (by omega), if_pos k4]
  unfold lkC
  rw [e0] at hk2 ⊢
  dsimp only [thC] at b1
  rw [k4, l2, ead] at L b1
  generalize (c.s.T.getD x.toNat t0).2.1.getD 0 (0, 0) = u at *
  generalize (c.s.T.getD x.toNat t0).2.1.getD 1 (0, 0) = v at *
  generalize (c.l.fm x.toNat).2 = cp at *
  obtain ⟨u0, u1⟩ := u
  obtain ⟨v0, v1⟩ := v
  dsimp only at z0 z1 y0 y1 hv0 hv1
  rw [Nat.zero_mul, Nat.add_zero] at y0 y1
  have P := ephemX_any hg (h.below b1.drew) hk (u0, u1) (v0, v1) hv0 hv1
  have HE : Hid (∀ own1 vt1 n11 n21 hm1 w1, Cm c own1 vt1 n11 n21 hm1 (lke st (u0, u1) (v0, v1)) w1 → Tk own w own1 w1 → Endx c own w x (lke st (u0, u1) (v0, v1)) w1) := fun own1 vt1 n11 n21 hm1 w1 g t => endx hg g hk2 t x x0 xl
  have HB : Hid (Below w.heap.size w (w.alloc (.cells #[.int .i64 4, .slice (some ⟨b, o, none⟩) 2 cp] 76))) := b1
  have HK : Hid (∀ own1 vt1 n11 n21 hm1 st1 (w1 : World), Cm c own1 vt1 n11 n21 hm1 st1 w1 → Tk own (w.alloc (.cells #[.int .i64 4, .slice (some ⟨b, o, none⟩) 2 cp] 76)).drew own1 w1 → w1.heap[b]? = (w.alloc (.cells #[.int .i64 4, .slice (some ⟨b, o, none⟩) 2 cp] 76)).heap[b]? ∧ w1.heap[w.heap.size]? = some (.cells #[.int .i64 4, .slice (some ⟨b, o, none⟩) 2 cp] 76 (0, 0))) := fun own1 vt1 n11 n21 hm1 st1 w1 g t => by
    have hb0 := hg.fb hxa (by omega) ead
    refine ⟨(g.ol b hb0).trans (((h.below b1).ol b hb0).symm), (t.fr.block w.heap.size (by simp [World.drew]) (fun d => by have := (h.lt _ d).2; omega)).trans (heap_alloc_new w _)⟩
  have nb : b ≠ w.heap.size := by omega
  clear hg h hk hk2 hx hxa e0 b1 hcl k4 l2 hv1 hv0 ead
  generalize lke st (u0, u1) (v0, v1) = st1 at *
  go_enter Tryz.func97, Tryz.ntmps97
  go_wp2_with fail
  have hw := heap_alloc_new w (.cells #[.int .i64 4, .slice (some ⟨b, o, none⟩) 2 cp] 76)
  have i0 := (HB.out.cell (p := ⟨b, o, none⟩) lb).trans y0
  have i1 := (HB.out.cell (p := ⟨b, o + 1, none⟩) lb).trans y1
  have j0 := (HB.out.cell (p := ⟨b, o + 1 * 2, none⟩) lb).trans z0
  have j1 := (HB.out.cell (p := ⟨b, o + 1 * 2 + 1, none⟩) lb).trans z1
  generalize w.alloc (.cells #[.int .i64 4, .slice (some ⟨b, o, none⟩) 2 cp] 76) = W at *
  obtain ⟨_, t1, _, _⟩ := two_cells hw
  clear y0 y1 z0 z1 hw L c1
  go_region_held3 (fun w' => w'.cell? ⟨w.heap.size, 1, none⟩ = some (.slice (some ⟨b, o, none⟩) 2 cp) ∧ w'.cell? ⟨b, o, none⟩ = some (.int .i64 u0) ∧ w'.cell? ⟨b, o + 1, none⟩ = some (.int .i64 u1) ∧ w'.cell? ⟨b, o + 1 * 2, none⟩ = some (.int .i64 v0) ∧ w'.cell? ⟨b, o + 1 * 2 + 1, none⟩ = some (.int .i64 v1)) (go_keep)
    (first | (go_at_call 109; refine P.mono ?_; clear P; rintro e w1 ⟨own1, vt1, n11, n21, hm1, rfl, g, t⟩; obtain ⟨hkb, hkw⟩ := HK.out own1 vt1 n11 n21 hm1 _ w1 g t; have i0' := (World.cell?_of_block (a := ⟨b, o, none⟩) hkb).trans i0; have i1' := (World.cell?_of_block (a := ⟨b, o + 1, none⟩) hkb).trans i1; have j0' := (World.cell?_of_block (a := ⟨b, o + 1 * 2, none⟩) hkb).trans j0; have j1' := (World.cell?_of_block (a := ⟨b, o + 1 * 2 + 1, none⟩) hkb).trans j1; obtain ⟨_, t1', _, _⟩ := two_cells hkw; have HT := HE.out own1 vt1 n11 n21 hm1 w1 g ((Tk.of HB.out.drew).trans t); have HT : Hid (_) := HT; clear g t hkb hkw i0 i1 j0 j1 t1 HK))
  all_goals
    obtain ⟨ad2, n2_, cap2, q3, L2, P2⟩ := HT.out
    clear HT HE HB i0' i1' j0' j1' t1'
    go_wp2_with fail
    refine P2.mono ?_
    clear P2
    rintro e w2 ⟨own2, vt2, n12, n22, hm2, rfl, g2, t2⟩
    have HF : Hid (_ ∧ _) := ⟨g2, t2⟩
    clear g2 t2 q3 L2
    go_wp2_with fail
    go_end0
    exact ⟨own2, vt2, n12, n22, hm2, rfl, HF.out.1, HF.out.2⟩
end

end Go.Proofs.YtogknhogphkddaaGreat

/- A grove's cut in memory: look at a guardian; look whole. -/
namespace Go.Proofs.YtogknhogphkddaaGreat
open Go.RowKit W Kp Stl

section
variable {c : Cp} {own own' own'' : Nat → Nat} {vt vt' : Value} {n1 n2 n1' n2' : Nat} {hm hm' : Int → Option Addr × Nat} {st st' : Cst} {F : Nat → Prop} {w w' w'' : World}

structure Rdi (own : Nat → Nat) (w : World) (ad : Option Addr) (l : List Int) : Prop where
  lp : Ls w ad l
  no : 0 < l.length → ∀ z, ad = some z → ¬ (own z.block = 1 ∨ own z.block = 2 ∨ own z.block = 3)
theorem Rdi.tm {ad : Option Addr} {l : List Int} (h : Rdi own w ad l) (t : Tm own w own' w') : Rdi own' w' ad l :=
  ⟨h.lp.keep t.fr.size (fun hp z e => t.fr.block _ (by obtain ⟨b, o, e', hb, _⟩ := h.lp hp; rw [e] at e'; cases e'; exact hb) (h.no hp z e)), fun hp z e => by
    rw [t.old _ (by obtain ⟨b, o, e', hb, _⟩ := h.lp hp; rw [e] at e'; cases e'; exact hb)]
    exact h.no hp z e⟩
abbrev rfs (l : List Int) : List (Int × Int) := l.map fun x => (3, x)

set_option maxRecDepth 100000 in
set_option maxHeartbeats 4000000 in
theorem lookX5 (hg : Cg c) (h : Cm c own vt n1 n2 hm st w) (hk : Hok_ c st) (x : Int) (x0 : 0 ≤ x) (hx : Ls_ st.A x.toNat) (hxa : Alv c.s.T x.toNat) (k5 : (c.s.T.getD x.toNat t0).1 = 5) :
    Calls Tryz.prog 97 #[.pointer (some ⟨c.cp, 0, none⟩), .int .i64 x] w fun e w' => ∃ own' vt' n1' n2' hm', e = .returned (.tuple #[]) ∧ Cm c own' vt' n1' n2' hm' (lkC c.s.T c.s.wt st x) w' ∧ Tk own w own' w' := by
  have xl : x < 10000 := by have := hxa.1; have := hg.t; omega
  have L := look_th h x x0 xl hx
  obtain ⟨c0, c1, _, _, _, lc⟩ := h.cells
  have b1 := (Below.refl w.heap.size w).alloc (Nat.le_refl _) (thC c x)
  have hgv := (h.below b1).gv hg.g
  obtain ⟨_, _, _, _, _, g5, _, _, lg⟩ := (h.gv hg.g).cells
  have PA := atS_any _ c.l.bp _ c.l.a1 c.l.k1 c.s.wt x hgv.g3.sd.blk (row_pairs hgv.g3.sd.q0) hg.wl
  have hvw : ∀ v ∈ rfs (atL c.s.wt x), v.1 = 3 → 0 ≤ v.2 ∧ Alv c.s.T v.2.toNat := fun v hv _ => by
    obtain ⟨y, hy, rfl⟩ := List.mem_map.1 hv
    obtain ⟨e, h1, h2, rfl⟩ := atL_mem.1 hy
    exact hg.iv.wv e h1
  have hal := atL_len c.s.wt x
  have hal := Nat.le_trans hal hg.wl
  have e1 : lkC c.s.T c.s.wt st x = mks (mks st (rfs (atL c.s.wt x))) ((mks st (rfs (atL c.s.wt x))).hd x) := by
    unfold lkC lkb
    rw [if_neg (by omega), if_neg (by omega), if_neg (by omega), if_pos k5]
  rw [e1]
  dsimp only [thC] at b1 PA
  rw [k5] at L b1 PA
  have HE : Hid (∀ own1 vt1 n11 w1, Cm c own1 vt1 n11 n2 hm (mks st (rfs (atL c.s.wt x))) w1 → Tk own w own1 w1 → Endx c own w x (mks st (rfs (atL c.s.wt x))) w1) := fun own1 vt1 n11 w1 g t => endx hg g (hk.marks _) t x x0 xl
  have HM : Hid (∀ own1 vt1 n11 (w1 : World) (j : Nat), j < (atL c.s.wt x).length → Cm c own1 vt1 n11 n2 hm (mks st (rfs ((atL c.s.wt x).take j))) w1 → Calls Tryz.prog 83 #[.pointer (some ⟨c.cp, 0, none⟩), .slice (some ⟨w1.heap.size, 0, none⟩) 1 1] (w1.alloc (.cells #[.int .i64 3, .int .i64 ((atL c.s.wt x).getD j 0)] 54)) fun e w' => ∃ own' vt' n1', e = .returned (.tuple #[]) ∧ Cm c own' vt' n1' n2 hm (mks st (rfs ((atL c.s.wt x).take (j + 1)))) w' ∧ Tm own1 w1 own' w') := fun own1 vt1 n11 w1 j hj g => by
    have hb2 := (Below.refl w1.heap.size w1).alloc (Nat.le_refl _) (.cells #[.int .i64 3, .int .i64 ((atL c.s.wt x).getD j 0)] 54)
    have e2 : rfs ((atL c.s.wt x).take (j + 1)) = rfs ((atL c.s.wt x).take j) ++ [(3, (atL c.s.wt x).getD j 0)] := by
      have e3 : (atL c.s.wt x).take (j + 1) = (atL c.s.wt x).take j ++ [(atL c.s.wt x).getD j 0] := by
        rw [List.take_add_one, List.getD_eq_getElem?_getD, List.getElem?_eq_getElem hj]
        rfl
      rw [e3, rfs, List.map_append]
      rfl
    rw [e2, mks_snoc]
    refine (markX_any hg.g hg.t (hk.marks _).len (g.below hb2) (some ⟨w1.heap.size, 0, none⟩) 1 [(3, (atL c.s.wt x).getD j 0)] (Rdl.one g (3, (atL c.s.wt x).getD j 0)) (fun u hu h3 => ?_) (by simp)).mono ?_
    · simp only [List.mem_singleton] at hu
      rw [hu] at h3 ⊢
      exact hvw _ (List.mem_map.2 ⟨_, getD_in hj, rfl⟩) rfl
    · rintro e w' ⟨own', vt', n1', rfl, g', t⟩
      exact ⟨own', vt', n1', rfl, g', (Tm.of hb2 (fun b hb => (g.lt b hb).2)).trans t⟩
  have HC : Hid (Cm c own vt n1 n2 hm st w) := h
  have HB : Hid (Below w.heap.size w (w.alloc (.cells #[.int .i64 5, .slice (c.l.fm x.toNat).1 (c.s.T.getD x.toNat t0).2.1.length (c.l.fm x.toNat).2] 76))) := b1
  clear hg h hk hx hxa e1 b1 k5 hgv hvw
  generalize atL c.s.wt x = A at *
  generalize (c.s.T.getD x.toNat t0).2.1.length = n at *
  generalize (c.l.fm x.toNat).1 = ad at *
  generalize (c.l.fm x.toNat).2 = cp at *
  go_enter Tryz.func97, Tryz.ntmps97
  go_wp2_with fail
  refine PA.mono ?_
  clear PA
  rintro e w1 ⟨ad1, cap1, rfl, hr1, hb1⟩
  have HB1 : Hid (Below w.heap.size w w1) := HB.out.trans (hb1.mono HB.out.size)
  have HR : Hid (Rdi own w1 ad1 A) := ⟨row_ints hr1, fun hp z e d => by
    have h1 := (row_lt hr1 z.block (by rw [e]; rfl)).1
    have h2 := (HC.out.lt z.block (by omega)).2
    have h3 : w.heap.size + 1 ≤ z.block := by simpa using h1
    omega⟩
  clear hb1 hr1 HB L c1 g5
  go_wp2_with fail
  go_loopw [55] (fun i wr => ∃ (j : Nat) (own' : Nat → Nat) (vt' : Value) (n1' : Nat), j ≤ A.length ∧ i = .int .i64 j ∧ Cm c own' vt' n1' n2 hm (mks st (rfs (A.take j))) wr ∧ Tm own w1 own' wr) (fun i _ => A.length - (intOf i).toNat)
  case atStart => exact ⟨0, own, vt, n1, Nat.zero_le _, rfl, HC.out.below HB1.out, Tm.of (Below.refl _ _) (fun b hb => ((HC.out.below HB1.out).lt b hb).2)⟩
  case round =>
    obtain ⟨j, own', vt', n1', hj, rfl, g, t⟩ := hrel
    by_cases hlt : j < A.length
    · obtain ⟨bb, o, ead, lb, hcl⟩ := (HR.out.tm t).lp (by omega)
      have hc := hcl j hlt
      have HX : Hid (∀ w2, Below wr.heap.size wr w2 → Calls Tryz.prog 83 #[.pointer (some ⟨c.cp, 0, none⟩), .slice (some ⟨w2.heap.size, 0, none⟩) 1 1] (w2.alloc (.cells #[.int .i64 3, .int .i64 (A.getD j 0)] 54)) fun e w' => ∃ own' vt' n1', e = .returned (.tuple #[]) ∧ Cm c own' vt' n1' n2 hm (mks st (rfs (A.take (j + 1)))) w' ∧ Tm own w1 own' w') := fun w2 hb => by
        refine (HM.out own' vt' n1' w2 j hlt (g.below hb)).mono ?_
        rintro e w' ⟨own2, vt2, n12, rfl, g2, t2⟩
        exact ⟨own2, vt2, n12, rfl, g2, (t.trans (Tm.of hb (fun b hb => (g.lt b hb).2))).trans t2⟩
      rw [ead]
      have n2_ : (j : Int) < A.length := by omega
      have n3 : IntKind.i64.wrap ((j : Int) + 1) = (j : Int) + 1 := by rw [IntKind.wrap_i64]; omega
      clear g t hcl ead
      generalize A.getD j 0 = y at *
      go_wp2_with fail
      refine (refValue_any y wr).mono ?_
      rintro e w2 ⟨rfl, hb2⟩
      have P := HX.out w2 hb2
      clear HX hb2
      go_wp2_with fail
      refine P.mono ?_
      clear P
      rintro e w3 ⟨own3, vt3, n13, rfl, g3, t3⟩
      have HF : Hid (_ ∧ _) := ⟨g3, t3⟩
      clear g3 t3
      go_wp2_with fail
      go_roundw
      case rel => exact ⟨j + 1, own3, vt3, n13, by omega, by go_num, HF.out.1, HF.out.2⟩
      case measure => simp [intOf]; omega
    · have e : A.take j = A := List.take_of_length_le (by omega)
      rw [e] at g
      obtain ⟨ad2, n2_, cap2, q3, L2, P2⟩ := HE.out own' vt' n1' wr g ((Tk.of HB1.out).trans t.tk)
      have hge : (A.length : Int) ≤ j := by omega
      clear g t e HE HM HR HC
      go_wp2_with fail
      refine P2.mono ?_
      clear P2
      rintro e w2 ⟨own2, vt2, n12, n22, hm2, rfl, g2, t2⟩
      have HF : Hid (_ ∧ _) := ⟨g2, t2⟩
      clear g2 t2 q3 L2
      go_wp2_with fail
      go_end0
      exact ⟨own2, vt2, n12, n22, hm2, rfl, HF.out.1, HF.out.2⟩
theorem lookX_any (hg : Cg c) (h : Cm c own vt n1 n2 hm st w) (hk : Hok_ c st) (x : Int) (hk2 : Hok_ c (lkb c.s.T c.s.wt st x)) (x0 : 0 ≤ x) (hx : Ls_ st.A x.toNat) (hxa : Alv c.s.T x.toNat) :
    Calls Tryz.prog 97 #[.pointer (some ⟨c.cp, 0, none⟩), .int .i64 x] w fun e w' => ∃ own' vt' n1' n2' hm', e = .returned (.tuple #[]) ∧ Cm c own' vt' n1' n2' hm' (lkC c.s.T c.s.wt st x) w' ∧ Tk own w own' w' := by
  by_cases k1 : (c.s.T.getD x.toNat t0).1 = 1 ∨ (c.s.T.getD x.toNat t0).1 = 2
  · exact lookX12 hg h hk x x0 hx hxa k1
  by_cases k3 : (c.s.T.getD x.toNat t0).1 = 3
  · exact lookX3 hg h hk x x0 hx hxa k3
  by_cases k4 : (c.s.T.getD x.toNat t0).1 = 4
  · exact lookX4 hg h hk x hk2 x0 hx hxa k4
  by_cases k5 : (c.s.T.getD x.toNat t0).1 = 5
  · exact lookX5 hg h hk x x0 hx hxa k5
  exact lookX0 hg h hk x x0 hx hxa k1 k3 k4 k5
end

end Go.Proofs.YtogknhogphkddaaGreat

/- A grove's cut in memory: spread: a contract. -/
namespace Go.Proofs.YtogknhogphkddaaGreat
open Go.RowKit W Kp Stl

structure Mo (T : List Tw1) (wt : List En) (is : List Bool) (s : Cst) : Prop where
  mi : Mi T wt is s []
  hl : ∀ x, (s.hd x).length ≤ s.m
  mm : s.m + (s.td.length + cnt s.A) ≤ T.length
structure Spr (T : List Tw1) (wt : List En) (is : List Bool) (s s' : Cst) : Prop where
  mo : Mo T wt is s'
  td : s'.td = []
  up : ∀ k, Ls_ s.A k → Ls_ s'.A k

section
variable {T : List Tw1} {wt : List En} {is : List Bool} {s : Cst}
theorem lkb_hl (hl : ∀ x, (s.hd x).length ≤ s.m) (i : Int) : (∀ x, ((lkb T wt s i).hd x).length ≤ (lkb T wt s i).m) ∧ (lkb T wt s i).m ≤ s.m + 1 := by
  have hm : ∀ l, (∀ x, ((mks s l).hd x).length ≤ (mks s l).m) ∧ (mks s l).m ≤ s.m + 1 := fun l => by
    obtain ⟨a, b, _⟩ := mks_hd s l
    rw [a, b]
    exact ⟨hl, by omega⟩
  unfold lkb
  split
  · exact hm _
  split
  · exact hm [_]
  split
  · unfold lke
    split
    · exact hm [_]
    · dsimp only
      refine ⟨fun x => ?_, Nat.le_refl _⟩
      have := hl x
      split
      · simp; omega
      · omega
  split
  · exact hm _
  · exact hm []
theorem lkC_hl (hl : ∀ x, (s.hd x).length ≤ s.m) (i : Int) : ∀ x, ((lkC T wt s i).hd x).length ≤ (lkC T wt s i).m := by
  unfold lkC
  obtain ⟨a, b, _⟩ := mks_hd (lkb T wt s i) ((lkb T wt s i).hd i)
  rw [a, b]
  exact (lkb_hl hl i).1
theorem Mi.hv {E : List Int} (h : Mi T wt is s E) (hW : Wiv T wt) (x : Int) (v : Int × Int) (hv : v ∈ s.hd x) (h3 : v.1 = 3) : 0 ≤ v.2 ∧ Alv T v.2.toNat := by
  obtain ⟨j, a, b, c, e⟩ := h.hd _ _ hv
  rw [e] at h3 ⊢
  exact key_ok hW (h.al j a) b 1 (by decide) h3
theorem lkb_hv {i : Nat} (h : Mi T wt is s [(i : Int)]) (hW : Wiv T wt) (hi : Alv T i) : ∀ x, ∀ v ∈ (lkb T wt s i).hd x, v.1 = 3 → 0 ≤ v.2 ∧ Alv T v.2.toNat := by
  have hm : ∀ l, ∀ x, ∀ v ∈ (mks s l).hd x, v.1 = 3 → 0 ≤ v.2 ∧ Alv T v.2.toNat := fun l x v hv h3 => by
    rw [(mks_hd s l).1] at hv
    exact h.hv hW x v hv h3
  unfold lkb
  rw [Int.toNat_natCast]
  split
  · exact hm _
  split
  · exact hm [_]
  split
  · rename_i k4
    unfold lke
    split
    · exact hm [_]
    · intro x v hv h3
      dsimp only at hv
      split at hv
      · rcases List.mem_append.1 hv with hv | hv
        · exact h.hv hW x v hv h3
        · simp only [List.mem_singleton] at hv
          rw [hv] at h3 ⊢
          exact key_ok hW hi k4 1 (by decide) h3
      · exact h.hv hW x v hv h3
  split
  · exact hm _
  · exact hm []
theorem lkb_len (i : Int) : (lkb T wt s i).A.length = s.A.length := by
  have hm : ∀ l, (mks s l).A.length = s.A.length := fun l => (mks_hd s l).2.2
  unfold lkb
  split
  · exact hm _
  split
  · exact hm [_]
  split
  · unfold lke
    split
    · exact hm [_]
    · rfl
  split
  · exact hm _
  · rfl
end

section
variable {c : Cp} {own own' : Nat → Nat} {vt vt' : Value} {n1 n2 n1' n2' : Nat} {hm hm' : Int → Option Addr × Nat} {st : Cst} {w w' : World} {is : List Bool}

theorem Cm.todo (h : Cm c own vt n1 n2 hm st w) {vt' : Value} {t : List Int} (hr : w.ownsRow 0 2 1 vt' t.length (t.map (Value.int .i64))) (ho : ∀ k, some k = vt'.ownBlock → own k = 3) (hl : t.length ≤ st.td.length) : Cm c own vt' n1 n2 hm { st with td := t } (w.setCell ⟨c.cp, 2, none⟩ vt') ∧ Tk own w own (w.setCell ⟨c.cp, 2, none⟩ vt') := by
  have fr : Fr (fun b => own b = 1) w (w.setCell ⟨c.cp, 2, none⟩ vt') := (Fr.refl _ w).set c.cp 2 vt' h.co
  have hk : ∀ b, own b ≠ 1 → b < w.heap.size → (w.setCell ⟨c.cp, 2, none⟩ vt').heap[b]? = w.heap[b]? := fun b hb hl => fr.block b hl hb
  have hlt := h.sz
  refine ⟨{ ol := fun k hk' => (fr.block k (by omega) (fun cc => ?_)).trans (h.ol k hk'), sz := Nat.le_trans h.sz fr.size, cb := ?_, co := h.co, am := h.am.same (hk _ (by rw [h.ao]; decide) h.am.lt), ao := h.ao, an := h.an, tr := row_keep hr (fun k e => hk k (by rw [ho k e]; decide) (row_lt hr k e).2), tw := ho, tn := by have := h.tn; dsimp only; omega
            hq := h.hq.same (hk _ (by rw [h.ho]; decide) h.hq.lt), ho := h.ho, hn := h.hn, hr := fun x hx => ⟨(h.hr x hx).1, row_keep (h.hr x hx).2 (fun k e => hk k (by rw [h.hro x hx k e]; omega) (row_lt (h.hr x hx).2 k e).2)⟩, hro := h.hro, lt := fun b hb => ⟨(h.lt b hb).1, Nat.lt_of_lt_of_le (h.lt b hb).2 fr.size⟩ }, fr.mono (fun b hb => by omega), fun b hb => Or.inl hb⟩
  · have := (h.lt k (by omega)).1
    omega
  · have h1 := h.cb
    simp only [World.setCell, Array.getElem?_modify, if_true, h1, Option.map_some]
    rfl

set_option maxRecDepth 100000 in
set_option maxHeartbeats 4000000 in
theorem spreadX_any (hg : Cg c) (h : Cm c own vt n1 n2 hm st w) (ho : Mo c.s.T c.s.wt is st) :
    Calls Tryz.prog 84 #[.pointer (some ⟨c.cp, 0, none⟩)] w fun e w' => ∃ own' vt' n1' n2' hm' st', e = .returned (.tuple #[]) ∧ Cm c own' vt' n1' n2' hm' st' w' ∧ Tk own w own' w' ∧ Spr c.s.T c.s.wt is st st' := by
  have HG : Hid (Cg c) := hg
  have HJ : Hid (Cm c own vt n1 n2 hm st w ∧ Mo c.s.T c.s.wt is st) := ⟨h, ho⟩
  obtain ⟨_, _, c2, _, _, _⟩ := h.cells
  obtain ⟨ad, cap, ev⟩ := row_slice h.tr
  rw [ev] at c2
  clear hg h ho ev
  go_enter Tryz.func84, Tryz.ntmps84
  go_wp2_with fail
  go_loopg [2] (st.td.length + cnt st.A) (fun m nv wr => ∃ (own' : Nat → Nat) (vt' : Value) (n1' n2' : Nat) (hm' : Int → Option Addr × Nat) (st' : Cst), nv = .int .i64 st'.td.length ∧ Hid (Cm c own' vt' n1' n2' hm' st' wr ∧ Tk own w own' wr ∧ Mo c.s.T c.s.wt is st' ∧ (∀ k, Ls_ st.A k → Ls_ st'.A k) ∧ st'.td.length + cnt st'.A ≤ m))
  case atStart => exact ⟨own, vt, n1, n2, hm, st, rfl, HJ.out.1, Tk.of (Below.refl _ _), HJ.out.2, fun _ h => h, Nat.le_refl _⟩
  case round =>
    clear HJ c2
    obtain ⟨own', vt', n1', n2', hm', s1, rfl, HJ1⟩ := hrel
    obtain ⟨g, t, mo, up, me⟩ := HJ1.out
    by_cases hlt : 0 < s1.td.length
    · obtain ⟨_, _, d2, _, df, lk⟩ := g.cells
      have tr := g.tr
      obtain ⟨b, cap, evt⟩ := row_shape tr hlt
      subst evt
      have hcp := row_caps tr
      have hmx : maxLen ≤ 9223372036854775807 := by unfold maxLen; omega
      obtain ⟨n, hn⟩ : ∃ n, s1.td.length = n + 1 := ⟨s1.td.length - 1, by omega⟩
      have tc : wr.cell? ⟨b, n, none⟩ = some (.int .i64 (s1.td.getD n 0)) := by
        obtain ⟨b', o', e, _, hc⟩ := row_ints tr hlt
        cases e
        have := hc n (by omega)
        rwa [Nat.zero_add] at this
      have ntk : (s1.td.take n).length = n := by rw [List.length_take]; omega
      have e1 : s1.td = s1.td.take n ++ [s1.td.getD n 0] := by
        rw [List.getD_eq_getElem?_getD, List.getElem?_eq_getElem (by omega)]
        have := List.take_add_one (l := s1.td) (i := n)
        rw [List.getElem?_eq_getElem (by omega), List.take_of_length_le (by omega)] at this
        exact this
      have hx := mo.mi.td (s1.td.getD n 0) (Or.inr (getD_in (by omega)))
      have mi2 := mo.mi.pop HG.out.iv e1
      obtain ⟨i, hi⟩ := Int.eq_ofNat_of_zero_le hx.1
      have hia : Alv c.s.T i := mo.mi.al i (by have := hx.2; rwa [hi] at this)
      obtain ⟨g2, t2⟩ := g.todo (vt' := .slice (some ⟨b, 0, none⟩) n cap) (t := s1.td.take n) (by
        rw [ntk, List.map_take]
        exact row_front tr n (by omega)) (fun k e => g.tw k e) (by omega)
      have mmn := mo.mm
      have tT := HG.out.t
      have hk1 : Hok_ c { s1 with td := s1.td.take n } := ⟨mo.mi.len, fun x v hv h3 => mo.mi.hv HG.out.iv x v hv h3, fun x => by have := mo.hl x; dsimp only; omega, by dsimp only; omega⟩
      rw [hi] at hx mi2 e1
      have hls : Ls_ s1.A i := by simpa using hx.2
      have hb := lkb_hl (T := c.s.T) (wt := c.s.wt) (s := { s1 with td := s1.td.take n }) mo.hl i
      have hk2 : Hok_ c (lkb c.s.T c.s.wt { s1 with td := s1.td.take n } i) := ⟨(lkb_len _).trans mo.mi.len, lkb_hv mi2 HG.out.iv hia, fun x => by have h1 := hb.1 x; have h2 := hb.2; dsimp only at h2; omega, by have h2 := hb.2; dsimp only at h2; omega⟩
      have PL := lookX_any HG.out g2 hk1 i hk2 (by omega) (by simpa using hls) (by simpa using hia)
      have HL : Hid (Lkd c.s.T c.s.wt is { s1 with td := s1.td.take n } (lkC c.s.T c.s.wt { s1 with td := s1.td.take n } i)) := mi2.look HG.out.iv hls
      have HH : Hid (∀ x, ((lkC c.s.T c.s.wt { s1 with td := s1.td.take n } i).hd x).length ≤ (lkC c.s.T c.s.wt { s1 with td := s1.td.take n } i).m) := lkC_hl (s := { s1 with td := s1.td.take n }) mo.hl i
      have HT : Hid (Tk own w own' (wr.setCell ⟨c.cp, 2, none⟩ (.slice (some ⟨b, 0, none⟩) n cap))) := t.trans t2
      have HN : Hid (s1.td.length = n + 1 ∧ (s1.td.take n).length = n) := ⟨hn, ntk⟩
      have HU : Hid ((∀ k, Ls_ st.A k → Ls_ s1.A k) ∧ s1.m + (s1.td.length + cnt s1.A) ≤ c.s.T.length ∧ s1.td.length + cnt s1.A ≤ gk) := ⟨up, mmn, me⟩
      rw [hi] at tc
      rw [hn] at d2 hcp ⊢
      have d22 := df 2
      have w1_ : IntKind.i64.wrap (((n + 1 : Nat) : Int) - 1) = (n : Int) := by rw [IntKind.wrap_i64]; omega
      have hnb : n ≤ 10000 := by omega
      generalize lkC c.s.T c.s.wt { s1 with td := s1.td.take n } i = s3 at *
      clear g t mo up me tr hn ntk e1 hx mi2 hi hia g2 t2 mmn tT hk1 hk2 hb df hls HJ1
      go_wp2_with fail
      refine PL.mono ?_
      clear PL
      rintro e w4 ⟨own4, vt4, n14, n24, hm4, rfl, g4, t4⟩
      obtain ⟨_, _, e2, _⟩ := g4.cells
      obtain ⟨ad4, cap4, ev4⟩ := row_slice g4.tr
      rw [ev4] at e2
      have hmu := HL.out.td
      have hsp := HN.out
      dsimp only at hmu
      have hg1 : 1 ≤ gk := by have := HU.out.2.2; omega
      have HF : Hid (Cm c own4 vt4 n14 n24 hm4 s3 w4 ∧ Tk own w own4 w4 ∧ Mo c.s.T c.s.wt is s3 ∧ (∀ k, Ls_ st.A k → Ls_ s3.A k) ∧ s3.td.length + cnt s3.A ≤ gk - 1) := ⟨g4, HT.out.trans t4, ⟨HL.out.mi, HH.out, by
        have h1 := HL.out.mm
        have h2 := HU.out.2.1
        dsimp only at h1
        omega⟩, fun k hk => HL.out.up k (HU.out.1 k hk), by have := HU.out.2.2; omega⟩
      clear g4 t4 hmu hsp HL HH HT HN HU d2 d22 tc ev4
      go_wp2_with fail
      go_roundg (gk - 1)
      case measure => omega
      case rel => exact ⟨own4, vt4, n14, n24, hm4, s3, rfl, HF⟩
    · have e0 : s1.td = [] := List.eq_nil_of_length_eq_zero (by omega)
      clear g t mo up me
      rw [e0]
      go_wp2_with fail
      go_end0
      obtain ⟨g, t, mo, up, _⟩ := HJ1.out
      exact ⟨own', vt', n1', n2', hm', s1, rfl, g, t, mo, e0, up⟩
end

end Go.Proofs.YtogknhogphkddaaGreat
