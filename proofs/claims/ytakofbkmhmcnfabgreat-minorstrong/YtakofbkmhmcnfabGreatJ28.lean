/- Joined: Mn32, Ws19, Ws20, Ws16, Ws17, OpenC, Ref, Ref2, Rm, Rm2. -/
import Derived.Test.YtakofbkmhmcnfabGreatJ27
import Derived.Test.YtakofbkmhmcnfabGreatJ16
import Derived.Test.YtakofbkmhmcnfabGreatJ25
import Derived.Test.YtakofbkmhmcnfabGreatJ04
import Derived.Lib.SmallJoins
import Derived.Test.YtakofbkmhmcnfabGreatJ01
import Derived.Test.YtakofbkmhmcnfabGreatJ03
import Derived.Deep.RegionWith
/- A small cut, of lists: how it begins, what it never turns, what is not young leads to old things. -/
namespace Go.Proofs.YtakofbkmhmcnfabGreat
open Go.RowKit W Kp Stl

section
variable {k : Ck} {z : C0} {s : Cs} {H D : List Int}

/-- A field that leads to no young thing leads to an old one. -/
theorem LI.fy (h : LI k z s H D)
    (hz : ∀ v, (v ∈ k.T ∨ v ∈ z.G) → ∀ i, 0 ≤ i → i < pf (k.l0 z v) → aB (k.l0 z (v + 1 + i)) = true → aV (k.l0 z (v + 1 + i)) ∈ k.T ∨ aV (k.l0 z (v + 1 + i)) ∈ z.G)
    {b : Int} (hb : b ∈ z.G ++ H) {i : Int} (i0 : 0 ≤ i) (i1 : i < pf (k.ld s b)) (ha : aB (k.ld s (b + 1 + i)) = true) (hy : k.yg (k.ld s (b + 1 + i)) = false) : aV (k.ld s (b + 1 + i)) ∈ z.G ++ H := by
  obtain ⟨a, o⟩ := h.mi.from hb
  have e0 := h.mi.hd a b o
  rw [e0] at i1
  have hm := h.mi.fd a b o i i0 i1
  have haT : a ∈ k.T ∨ a ∈ z.G := by
    rcases o with ⟨e, d⟩ | ⟨d, _⟩
    · exact Or.inr (by rw [e]; exact d)
    · exact Or.inl d
  rcases hm with e | ⟨g1, g2, g3⟩
  · rw [e] at ha hy ⊢
    rcases hz a haT i i0 i1 ha with d | d
    · unfold Ck.yg at hy
      rw [ha] at hy
      simp at hy
      exact absurd d hy
    · exact List.mem_append_left _ d
  · have hT : aV (k.l0 z (a + 1 + i)) ∈ k.T := by
      unfold Ck.yg at g1
      rw [Bool.and_eq_true] at g1
      simpa using g1.2
    have hH := h.mi.fh _ hT g2
    have hbd := h.mi.bdH hH
    have hN := h.mi.ci.hN'
    have hO := h.mi.ci.hO
    have hg := h.mi.ci.hg
    obtain ⟨n, hn⟩ : ∃ n : Nat, s.f (aV (k.l0 z (a + 1 + i))) = n := ⟨(s.f (aV (k.l0 z (a + 1 + i)))).toNat, by omega⟩
    rw [g3, hn, (ew_at n (by omega)).2, ← hn]
    exact List.mem_append_right _ hH
/-- What stands in the old space is no young thing. -/
theorem MI.noY (h : MI k z s H) {x : Int} (hx : aV x ∈ z.G ++ H) : k.yg x = false := by
  have h1 := h.ci.notT (h.bd hx).1
  unfold Ck.yg
  have e : k.T.contains (aV x) = false := by
    cases hc : k.T.contains (aV x)
    · rfl
    · exact absurd (by simpa using hc) h1
  rw [e, Bool.and_false]

/-! ### roots stand -/
theorem lb_rs (k : Ck) : ∀ (n : Nat) (s : Cs), (k.lb n s).rs = s.rs
  | 0, s => rfl
  | n + 1, s => by
    unfold Ck.lb
    split
    · exact (lb_rs k n _).trans (lk_nx k s s.nx).2
    · rfl
theorem kvl_rs (k : Ck) : ∀ (l : List Int) (t : List Int × Cs), (l.foldl k.kv1 t).2.rs = t.2.rs
  | [], t => rfl
  | a :: l, t => by
    rw [List.foldl_cons]
    refine (kvl_rs k l _).trans ?_
    unfold Ck.kv1
    split
    · rfl
    · exact (kf_wk ..).2.2.2.trans (kf_wk ..).2.2.2
theorem kv_rs (k : Ck) (s : Cs) : (k.kv s).2.rs = s.rs := kvl_rs k s.ep ([], s)
theorem wkl_rs (k : Ck) : ∀ (l : List Nat) (t : (Cs × List En) × Bool), (l.foldl (wkP k.al k.br) t).1.1.rs = t.1.1.rs
  | [], t => rfl
  | a :: l, t => by
    rw [List.foldl_cons]
    refine (wkl_rs k l _).trans ?_
    unfold wkP
    split
    · rfl
    · exact (br_rs ..).1
theorem spr_rs (k : Ck) : ∀ (n : Nat) (t : Cs × List En), (k.spr n t).1.rs = t.1.rs
  | 0, t => rfl
  | n + 1, t => by
    have e1 : (k.kv (k.lb (k.O + 1) t.1)).2.rs = t.1.rs := (kv_rs ..).trans (lb_rs ..)
    have e2 : (k.wa ((k.kv (k.lb (k.O + 1) t.1)).2, t.2)).1.1.rs = t.1.rs := (wkl_rs k _ (((k.kv (k.lb (k.O + 1) t.1)).2, t.2), false)).trans e1
    unfold Ck.spr
    split
    · exact (spr_rs k n _).trans e1
    · split
      · exact (spr_rs k n _).trans e2
      · exact e2
theorem ke_rs (k : Ck) (t : Cs × List En) (x : Int) : (k.ke t x).2.1.rs = t.1.rs := (spr_rs ..).trans (br_rs ..).1
theorem one_rs (k : Ck) (t : Cs × List En) (e : En) : (cm (noSd Cs) (fun s x => k.al s.1 x) k.ke t e).2.1.rs = t.1.rs := by
  unfold cm
  split
  · exact ke_rs k t e.2
  · rfl
theorem part_rs (k : Ck) (l : List En) (t : Cs × List En) : (pts (cm (noSd Cs) (fun s x => k.al s.1 x) k.ke) t l).2.2.1.rs = t.1.rs := by
  have key : ∀ (l : List En) (p : List En × List En × (Cs × List En)), (l.foldl (pstep (cm (noSd Cs) (fun s x => k.al s.1 x) k.ke)) p).2.2.1.rs = p.2.2.1.rs := by
    intro l
    induction l with
    | nil => exact fun p => rfl
    | cons e l ih =>
      intro p
      rw [List.foldl_cons]
      refine (ih _).trans ?_
      have h1 := one_rs k p.2.2 e
      unfold pstep
      split
      · exact h1
      · exact h1
  exact key l ([], [], t)
theorem turn_rs (k : Ck) : ∀ (n : Nat) (t : Cs × List En) (d : List En), (trn (cm (noSd Cs) (fun s x => k.al s.1 x) k.ke) n t d).1.1.rs = t.1.rs
  | 0, t, d => rfl
  | n + 1, t, d => by
    unfold trn
    split
    · exact part_rs k d t
    · exact (turn_rs k n _ _).trans (part_rs k d t)
theorem sS_rs (k : Ck) (t : Cs × List En) (r : List En) : (k.sS t r).1.rs = t.1.rs := turn_rs k _ _ _
theorem lm_len (k : Ck) (e c : Int) (M : List Int) : ∀ (l : List Int) (s : Cs), (l.foldl (k.lm1 e c M) s).wk.length ≤ s.wk.length + l.length ∧ (l.foldl (k.lm1 e c M) s).ep.length ≤ s.ep.length + l.length ∧ (l.foldl (k.lm1 e c M) s).nx = s.nx ∧ (l.foldl (k.lm1 e c M) s).rs = s.rs
  | [], s => ⟨Nat.le_refl _, Nat.le_refl _, rfl, rfl⟩
  | b :: l, s => by
    rw [List.foldl_cons]
    obtain ⟨h1, h2, h3, h4⟩ := lm_len k e c M l (k.lm1 e c M s b)
    have key : (k.lm1 e c M s b).wk.length ≤ s.wk.length + 1 ∧ (k.lm1 e c M s b).ep.length ≤ s.ep.length + 1 ∧ (k.lm1 e c M s b).nx = s.nx ∧ (k.lm1 e c M s b).rs = s.rs := by
      unfold Ck.lm1
      split
      · split
        · obtain ⟨w1, w2⟩ := lk_we k s b
          obtain ⟨n1, n2⟩ := lk_nx k s b
          refine ⟨?_, ?_, n1, n2⟩
          · rcases w1 with d | ⟨_, d⟩
            · rw [d]; omega
            · rw [d, List.length_append]; simp
          · rcases w2 with d | ⟨_, d⟩
            · rw [d]; omega
            · rw [d, List.length_append]; simp
        · exact ⟨Nat.le_succ _, Nat.le_succ _, rfl, rfl⟩
      · exact ⟨Nat.le_succ _, Nat.le_succ _, rfl, rfl⟩
    obtain ⟨k1, k2, k3, k4⟩ := key
    simp only [List.length_cons]
    exact ⟨by omega, by omega, h3.trans k3, h4.trans k4⟩
end

/-! ### how it begins -/
theorem Tw_eq {N O y g : Nat} {ws Y G : List Int} (h : Full2 N y g ws Y G) (hN : N ≤ 256) (hy : y ≤ N) (hO : O ≤ 1024) (hg : g ≤ O) : Tw N y g ws = Y := by
  unfold Tw
  rw [(h.lists hN hy hO hg).1]
  exact List.filter_eq_self.2 (fun x hx => decide_eq_true (by have := (h.ty.mem x hx).2.1; omega))
/-- The wood ahead. -/
def Wst.z0 (s : Wst) (G : List Int) : C0 := ⟨s.g, s.ws, G⟩
theorem LI.start {a : Wc} {s : Wst} {Y G : List Int} (h : Full2 a.N s.y s.g s.ws Y G) (hN : 16 ≤ a.N) (hN' : a.N ≤ 256) (hO : a.O ≤ 1024) (hy : s.y ≤ a.N) (hg : s.g ≤ a.O) (hl : s.ws.length = a.N + a.O) (hr : s.y ≤ a.O - s.g) : LI (s.k0 a) (s.z0 G) (s.s0 a) [] [] := by
  have hT : (s.k0 a).T = Y := Tw_eq h hN' hy hO hg
  refine ⟨⟨CI.start hN hN' hO hy hg hl hr, Nat.le_refl _, ?_, fun b hb => (h.io b hb).2, fun _ _ _ => rfl, fun a _ e => absurd rfl e, fun a _ b _ e => absurd rfl e, fun b hb => (by cases hb), fun b hb => (by cases hb), fun a b o => ?_, fun a b o i i0 i1 => ?_⟩, Or.inr rfl, fun b hb => (by cases hb), fun b hb => (by cases hb), fun b hb => (by cases hb)⟩
  · rw [hT, List.append_nil]
    exact h
  · rcases o with ⟨e, _⟩ | ⟨_, e, e2⟩
    · rw [e]
      rfl
    · exact absurd e.symm e2
  · rcases o with ⟨e, _⟩ | ⟨_, e, e2⟩
    · rw [e]
      exact Or.inl rfl
    · exact absurd e.symm e2
theorem WE.start (a : Wc) (s : Wst) (G : List Int) : WE (s.k0 a) (s.z0 G) (s.s0 a) [] := ⟨fun b hb => (by cases hb), fun b hb => (by cases hb)⟩

end Go.Proofs.YtakofbkmhmcnfabGreat

/- A small cut keeps a wood in order. -/
namespace Go.Proofs.YtakofbkmhmcnfabGreat
open Go.RowKit W Kp Stl

/-- How far a cut is behind Settle: K was brought; roots and fields lead to old things, but what is weak. -/
structure CutR (a : Wc) (S : Ww) (G K D : List Int) : Prop where
  li : LI (S.s.k0 a) (S.s.z0 G) (S.s4 a) K D
  we : WE (S.s.k0 a) (S.s.z0 G) (S.s4 a) K
  he : hB a.N (S.s4 a).g (S.s4 a).nx = false
  hz : ∀ v, (v ∈ (S.s.k0 a).T ∨ v ∈ G) → ∀ i, 0 ≤ i → i < pf ((S.s.k0 a).l0 (S.s.z0 G) v) → aB ((S.s.k0 a).l0 (S.s.z0 G) (v + 1 + i)) = true → aV ((S.s.k0 a).l0 (S.s.z0 G) (v + 1 + i)) ∈ (S.s.k0 a).T ∨ aV ((S.s.k0 a).l0 (S.s.z0 G) (v + 1 + i)) ∈ G
  hc : ∀ v ∈ G, v ∉ D → ∀ i, 0 ≤ i → i < pf ((S.s.k0 a).l0 (S.s.z0 G) v) → (S.s.k0 a).yg ((S.s.k0 a).l0 (S.s.z0 G) (v + 1 + i)) = false
  rl : (S.s4 a).rs.length = 12
  ry : ∀ i, i < 12 → (S.s.k0 a).yg ((S.s4 a).rs.getD i 0) = false
  rm : ∀ i, i < 12 → (S.s.k0 a).ml (S.s4 a) (S.s.rs.getD i 0) ((S.s4 a).rs.getD i 0)

section
variable {a : Wc} {S : Ww} {Y G : List Int}

theorem cut_rest (h : KInv a S.s Y G) (hb : Wbd a S.s) (hr : S.s.y ≤ a.O - S.s.g) : ∃ K D, CutR a S G K D := by
  have hT : (S.s.k0 a).T = Y := Tw_eq h.inv.full hb.n1 hb.y1 hb.o1 hb.g1
  have L0 := LI.start h.inv.full hb.n0 hb.n1 hb.o1 hb.y1 hb.g1 hb.l1 hr
  have W0 := WE.start a S.s G
  obtain ⟨H1, L1, p1, ⟨H1', e1⟩, l1, y1, _, m1⟩ := L0.kr 12 (by show 12 ≤ S.s.rs.length; rw [hb.r1]; exact Nat.le_refl _)
  have W1 := W0.kr L0.mi 12 L1.mi p1 ⟨_, e1⟩
  have eth : thO a.N S.s.y (S.s.s1 a).g (S.s.s1 a).ws = G ++ H1 := (L1.mi.full.lists (O := a.O) hb.n1 hb.y1 hb.o1 L1.mi.ci.hg).2
  have enx : (S.s.s1 a).nx = ((S.s.k0 a).N : Int) + (S.s.z0 G).g := (kr_wk (S.s.k0 a) (S.s.s0 a) 12).2.2
  have hzt : Tile ((S.s.k0 a).l0 (S.s.z0 G)) (((S.s.k0 a).N : Int) + (S.s.z0 G).g) (S.s.k0 a).N (S.s.z0 G).G := h.inv.full.to
  obtain ⟨H2, D2, L2, W2, p2, ⟨H2', e2⟩, _, hD⟩ := LI.lmw (nC a.O) S.s.M hzt (G ++ H1) L1 W1 (fun x hx => (List.mem_append.1 hx).imp id (fun d => L1.mi.hlo x d))
  have es2 : (G ++ H1).foldl ((S.s.k0 a).lm1 (((S.s.k0 a).N : Int) + (S.s.z0 G).g) (nC a.O) S.s.M) ((S.s.k0 a).kr (S.s.s0 a) 12) = S.s.s2 a := by
    unfold Wst.s2 Ck.lm
    rw [eth, enx]
    rfl
  have hlen := lm_len (S.s.k0 a) (((S.s.k0 a).N : Int) + (S.s.z0 G).g) (nC a.O) S.s.M (G ++ H1) ((S.s.k0 a).kr (S.s.s0 a) 12)
  rw [es2] at L2 W2 p2 hlen
  have hle : (G ++ H1).length ≤ 2000 := by
    rw [← eth]
    exact ths_le _ _
  obtain ⟨q1, q2, q3⟩ := kr_wk (S.s.k0 a) (S.s.s0 a) 12
  have cb : CB (S.s.k0 a) (S.s.s2 a) := by
    obtain ⟨u1, u2, u3, _⟩ := hlen
    rw [q1] at u1
    rw [q2] at u2
    rw [q3] at u3
    have u1 : (S.s.s2 a).wk.length ≤ 0 + (G ++ H1).length := u1
    have u2 : (S.s.s2 a).ep.length ≤ 0 + (G ++ H1).length := u2
    have u3 : (S.s.s2 a).nx = (a.N : Int) + S.s.g := u3
    have o1 := hb.o1
    refine ⟨?_, ?_⟩
    · rw [u3]
      show (S.s.s2 a).wk.length + ((a.N : Int) + a.O + 13 - ((a.N : Int) + S.s.g)).toNat ≤ 4000
      omega
    · rw [u3]
      show (S.s.s2 a).ep.length + ((a.N : Int) + a.O + 13 - ((a.N : Int) + S.s.g)).toNat ≤ 4000
      omega
  have R3 : Rest (S.s.k0 a) (S.s.z0 G) D2 H2 (S.t3 a).1 := by
    have key : ∀ s2 : Cs, LI (S.s.k0 a) (S.s.z0 G) s2 H2 D2 → WE (S.s.k0 a) (S.s.z0 G) s2 H2 → CB (S.s.k0 a) s2 → Rest (S.s.k0 a) (S.s.z0 G) D2 H2 ((S.s.k0 a).sp (s2, S.q)).1 := fun s2 l w b => Rest.sp (t := (s2, S.q)) l w b ⟨[], (List.append_nil _).symm⟩
    unfold Ww.t3
    exact key _ L2 W2 cb
  have R4 : Rest (S.s.k0 a) (S.s.z0 G) D2 H2 (S.s4 a) := by
    unfold Ww.s4
    exact R3.sS S.r
  obtain ⟨K, L4, W4, _, he, ⟨B, e4⟩⟩ := R4
  have ers : (S.s4 a).rs = (S.s.s1 a).rs := by
    unfold Ww.s4
    rw [sS_rs]
    unfold Ww.t3 Ck.sp
    rw [spr_rs]
    exact hlen.2.2.2
  -- what was told of roots is so behind
  have pg : Pg (S.s.k0 a) (S.s.s1 a) (S.s4 a) := by
    have key : ∀ s2 : Cs, LI (S.s.k0 a) (S.s.z0 G) s2 H2 D2 → WE (S.s.k0 a) (S.s.z0 G) s2 H2 → Pg (S.s.k0 a) s2 ((S.s.k0 a).sS ((S.s.k0 a).sp (s2, S.q)) S.r).1 := fun s2 l w => by
      obtain ⟨K1, i1, i2, i3, _⟩ := Ru.sp (k := S.s.k0 a) (z := S.s.z0 G) (D := D2) (s2, S.q) H2 l w
      obtain ⟨K2, _, _, j3, _⟩ := Ru.sS (k := S.s.k0 a) (z := S.s.z0 G) (D := D2) ((S.s.k0 a).sp (s2, S.q)) S.r K1 i1 i2
      exact i3.trans j3
    unfold Ww.s4 Ww.t3
    exact p2.trans (key _ L2 W2)
  refine ⟨K, D2, L4, W4, he, fun v hv i i0 i1 ha => ?_, fun v hv hvD i i0 i1 => ?_, ?_, fun i hi => ?_, fun i hi => ?_⟩
  · rw [hT] at hv ⊢
    exact h.inv.fd v hv i i0 i1 ha
  · cases hc : (S.s.k0 a).yg ((S.s.k0 a).l0 (S.s.z0 G) (v + 1 + i))
    · rfl
    · exfalso
      unfold Ck.yg at hc
      rw [Bool.and_eq_true, hT] at hc
      have hm := h.cd v hv i i0 i1 hc.1 (List.contains_iff_mem.1 hc.2)
      exact hvD (hD v (List.mem_append_left _ hv) hv hm)
  · rw [ers]
    exact l1.trans hb.r1
  · rw [ers]
    exact y1 i hi
  · rw [ers]
    exact pg.ml (m1 i hi)

/-- A root behind a cut leads to an old thing, if it leads anywhere. -/
theorem CutR.root {K D : List Int} (c : CutR a S G K D) (h : KInv a S.s Y G) (hb : Wbd a S.s) : ∀ x ∈ (S.s4 a).rs, Gd (S.s.k0 a) (G ++ K) x := fun x hx ha => by
  have hT : (S.s.k0 a).T = Y := Tw_eq h.inv.full hb.n1 hb.y1 hb.o1 hb.g1
  obtain ⟨i, hi, e⟩ := List.mem_iff_getElem.1 hx
  have hi12 : i < 12 := by rw [← c.rl]; exact hi
  have e2 : (S.s4 a).rs.getD i 0 = x := by
    rw [List.getD_eq_getElem?_getD, List.getElem?_eq_getElem hi, e]
    rfl
  have hy := c.ry i hi12
  have hm := c.rm i hi12
  rw [e2] at hy hm
  refine ⟨hy, ?_⟩
  rcases hm with d | ⟨g1, g2, g3⟩
  · have hmem : S.s.rs.getD i 0 ∈ S.s.rs := by
      have hl : i < S.s.rs.length := by rw [hb.r1]; exact hi12
      rw [List.getD_eq_getElem?_getD, List.getElem?_eq_getElem hl]
      exact List.getElem_mem hl
    rw [← d] at hmem
    rcases h.inv.rt x hmem ha with g | g
    · unfold Ck.yg at hy
      rw [ha, hT] at hy
      simp at hy
      exact absurd g hy
    · exact List.mem_append_left _ g
  · have hT2 : aV (S.s.rs.getD i 0) ∈ (S.s.k0 a).T := by
      unfold Ck.yg at g1
      rw [Bool.and_eq_true] at g1
      simpa using g1.2
    have hH := c.li.mi.fh _ hT2 g2
    have hbd := c.li.mi.bdH hH
    have hN := hb.n1
    have hO := hb.o1
    have hg := c.li.mi.ci.hg
    have eN : (S.s.k0 a).N = a.N := rfl
    have eO : (S.s.k0 a).O = a.O := rfl
    obtain ⟨n, hn⟩ : ∃ n : Nat, (S.s4 a).f (aV (S.s.rs.getD i 0)) = n := ⟨((S.s4 a).f (aV (S.s.rs.getD i 0))).toNat, by omega⟩
    rw [g3, hn, (ew_at n (by omega)).2, ← hn]
    exact List.mem_append_right _ hH

/-- Behind a cut a wood is in order. -/
theorem CutR.done {K D : List Int} (c : CutR a S G K D) (h : KInv a S.s Y G) (hb : Wbd a S.s) : WInv a.N 0 (S.s6 a).g (S.s6 a).ws [] (G ++ K) (S.s6 a).rs := by
  have ci := c.li.mi.ci
  have F4 : Fin1 (S.s.k0 a) (G ++ K) (fun b i => (i = 0 ∧ b ∈ (S.s4 a).wk) ∨ ((i = 0 ∨ i = 1) ∧ b ∈ (S.s4 a).ep)) (S.s4 a) := by
    refine ⟨c.li.mi.full, ci.len, ci.hy, ci.hg, fun b hb i i0 i1 => ?_, fun b hb i i0 i1 hy ha => ⟨hy, c.li.fy c.hz hb i0 i1 ha hy⟩⟩
    cases ha : aB ((S.s.k0 a).ld (S.s4 a) (b + 1 + i))
    · exact Or.inl (fun e => by rw [ha] at e; cases e)
    · rcases c.li.fields c.he c.hz c.hc hb i0 i1 ha with d | ⟨d1, d2, d3⟩ | ⟨d1, d2⟩
      · exact Or.inl (fun _ => ⟨c.li.mi.noY d, d⟩)
      · exact Or.inr (Or.inl ⟨d2, d3⟩)
      · have f2 := pf_two (c.li.mi.bd hb).2.2 (Or.inr (Or.inr d1))
        exact Or.inr (Or.inr ⟨by omega, d2⟩)
  obtain ⟨F5, k5, g5, r5, e5⟩ := Fin1.mw hb.n1 hb.o1 (S.s4 a).wk F4 (fun x hx => c.we.wk x hx) (fun x hx hf => List.mem_append_right _ (c.li.mi.fh x hx hf))
  have F5 : Fin1 (S.s.k0 a) (G ++ K) _ (S.s5 a) := F5
  have e5 : (S.s5 a).ep = (S.s4 a).ep := e5
  have r5 : (S.s5 a).rs = (S.s4 a).rs := r5
  have k5 : ∀ b ∈ G ++ K, (S.s.k0 a).ld (S.s5 a) b = (S.s.k0 a).ld (S.s4 a) b := k5
  obtain ⟨F6, k6, g6, r6⟩ := Fin1.be (S.s5 a).ep F5 (fun x hx => by
    rw [e5] at hx
    obtain ⟨q1, q2⟩ := c.we.ep x hx
    exact ⟨q1, by rw [k5 x q1]; exact q2⟩)
  have r6 : (S.s6 a).rs = (S.s5 a).rs := r6
  have F6 := F6.imp (Q := fun _ _ => False) (fun b i p => by
    obtain ⟨⟨p1, p2⟩, p3⟩ := p
    rw [e5] at p3
    rcases p1 with ⟨d1, d2⟩ | ⟨d1, d2⟩
    · exact p2 ⟨d2, d1⟩
    · exact p3 ⟨d2, d1⟩)
  exact F6.done (rs := (S.s6 a).rs) (by rw [r6, r5]; exact c.root h hb)

theorem KInv.cut (h : KInv a S.s Y G) (hb : Wbd a S.s) : ∃ Y' G', KInv a (S.cut a).s Y' G' := by
  unfold Ww.cut
  cases hf : S.full a
  · have hr : S.s.y ≤ a.O - S.s.g := by
      unfold Ww.full at hf
      have := of_decide_eq_false hf
      omega
    obtain ⟨K, D, c⟩ := cut_rest h hb hr
    rw [if_neg (by simp)]
    exact ⟨[], G ++ K, c.done h hb, fun v _ i _ _ _ hy => by cases hy⟩
  · rw [if_pos rfl]
    exact ⟨Y, G, h⟩
end

end Go.Proofs.YtakofbkmhmcnfabGreat

/- A wood and a world, from step to step: what holds behind so many of them. -/
namespace Go.Proofs.YtakofbkmhmcnfabGreat
open Go.RowKit W Kp Stl

/-- What holds behind j steps. -/
structure Bok (c : Bc) (S : Ww × Wrs) (j : Nat) : Prop where
  kv : ∃ Y G, KInv c.a S.1.s Y G
  wok : Wok S.2
  m : S.1.s.M.length ≤ j
  rq : S.1.r.length + S.1.q.length ≤ j
  t : S.2.T.length ≤ j
  rg : S.2.rg.length ≤ j
  wt : S.2.wt = []

section
variable {c : Bc} {F : Nat → Prop} {S : Ww × Wrs} {w : World} {j : Nat}

theorem aB_two : aB 2 = false := by decide
theorem Bok.start (c : Bc) (n o : Nat) : Bok c (bo0 n o) 0 := by
  refine ⟨⟨[], [], ⟨Full2.start, fun x hx ha => ?_, fun v hv => ?_⟩, fun v hv => (by cases hv)⟩, Wok.start n o, Nat.le_refl _, Nat.le_refl _, Nat.le_refl _, Nat.le_refl _, rfl⟩
  · have hx : x ∈ tw 2 12 := hx
    have e : x = 2 := by simpa [tw] using hx
    rw [e, aB_two] at ha
    cases ha
  · rcases hv with d | d <;> cases d
theorem Bok.do (h : Bok c S j) (hb : Wbd c.a S.1.s) (d A B C : Int) : Bok c (doS c S d A B C) (j + 1) := by
  obtain ⟨Y, G, hk⟩ := h.kv
  obtain ⟨Y', hk'⟩ := doS_wood hk hb d A B C
  obtain ⟨w1, w2, w3, w4⟩ := doS_world (c := c) h.wok d A B C
  obtain ⟨l1, l2⟩ := doS_len c S d A B C
  have e1 := h.m
  have e2 := h.rq
  have e3 := h.t
  have e4 := h.rg
  exact ⟨⟨Y', G, hk'⟩, w1, by omega, by omega, by omega, by omega, w4.trans h.wt⟩
theorem Bok.cut (h : Bok c S j) (hb : Wbd c.a S.1.s) : Bok c (S.1.cut c.a, S.2) (j + 1) := by
  obtain ⟨Y, G, hk⟩ := h.kv
  have l1 := cut_len c.a S.1
  have e1 := h.m
  have e2 := h.rq
  have e3 := h.t
  have e4 := h.rg
  refine ⟨hk.cut hb, h.wok, ?_, by dsimp only; omega, by dsimp only; omega, by dsimp only; omega, h.wt⟩
  dsimp only
  unfold Ww.cut
  split
  · omega
  · exact Nat.zero_le _
theorem Bok.rb (h : Bok c S j) (hj : j ≤ 10000) : RB S.2 := by
  have e3 := h.t
  have e4 := h.rg
  exact h.wok.rb (by omega) (by omega) (by rw [h.wt]; exact Nat.zero_le _)

theorem bo_wbd (h : (boO c).J F S w) : Wbd c.a S.1.s := by
  obtain ⟨FW, h1, _⟩ := bo_w h
  obtain ⟨F0, g1, _⟩ := ws_wod h1
  obtain ⟨_, _, _, _, _, rl, _⟩ := wod_cells g1
  have ha := (wod_arena g1).1
  exact ⟨ha.hN, ha.hN', ha.hO, ha.hy, ha.hg, ha.hl, rl⟩
/-- What of a wood may be looked at. -/
structure Blk (c : Bc) (s : Wst) (w : World) : Prop where
  at_ : At w c.a.p c.a.q c.a.N c.a.O s.y s.g s.ws
  cd : ∃ pq, Cd w c.a.pc pq c.a.N (nC c.a.O) s.M
  c0 : w.cell? ⟨c.a.pw, 0, none⟩ = some (.pointer (some ⟨c.a.p, 0, none⟩))
  c1 : w.cell? ⟨c.a.pw, 1, none⟩ = some (.pointer (some ⟨c.a.pc, 0, none⟩))
  b0 : w.cell? ⟨c.pb, 0, none⟩ = some (.pointer (some ⟨c.a.pw, 0, none⟩))
theorem bo_blk (h : (boO c).J F S w) : Blk c S.1.s w := by
  obtain ⟨d0, _⟩ := bo_cells h
  obtain ⟨FW, h1, _⟩ := bo_w h
  obtain ⟨F0, g1, _⟩ := ws_wod h1
  obtain ⟨c0, c1, _⟩ := wod_cells g1
  obtain ⟨pq, hc, _⟩ := wod_cards g1
  exact ⟨(wod_arena g1).1, ⟨pq, hc⟩, c0, c1, d0⟩
end

end Go.Proofs.YtakofbkmhmcnfabGreat

/- minorBegun: what it comes to. -/
namespace Go.Proofs.YtakofbkmhmcnfabGreat
open Go.RowKit W Kp Stl

theorem cut_only (a a' : Wc) (S : Ww) (h1 : a.N = a'.N) (h2 : a.O = a'.O) : S.cut a = S.cut a' ∧ S.code a = S.code a' := by
  obtain ⟨p1, p2, p3, p4, p5, p6, N, O⟩ := a
  obtain ⟨q1, q2, q3, q4, q5, q6, N', O'⟩ := a'
  dsimp only at h1 h2
  subst h1 h2
  simp only [Ww.code, Ww.cut, Ww.full, Ww.s6, Ww.s5, Ww.s4, Ww.t3, Wst.s2, Wst.s1, Wst.k0, Wst.s0]
  exact ⟨rfl, rfl⟩

/-- A wood of sixteen and eight words. -/
def mbA : Wc := ⟨0, 0, 0, 0, 0, 0, 16, 8⟩
/-- With a pair in it. -/
def mbS : Ww := ⟨⟨3, 0, mkW 16 0 1 2 (List.replicate 24 0), [], (tw 2 12).set 0 (ew 3 0)⟩, [], []⟩
theorem mb_code : mbS.code mbA = 0 := by decide +kernel
theorem mb_y : (mbS.cut mbA).s.y = 0 := by decide +kernel
theorem mb_g : (mbS.cut mbA).s.g = 3 := by decide +kernel
theorem mb_q : (mbS.cut mbA).q.length = 0 := by decide +kernel
theorem mb_v : (vwL 16 (mbS.cut mbA).s.y (mbS.cut mbA).s.g (mbS.cut mbA).s.ws (mbS.cut mbA).q (mbS.cut mbA).s.rs).2.2.length = 1 := by decide +kernel
theorem mb_b : ((bo0 16 8).2.fB 16 1 2 == decide (0 ≤ mkR 16 0 1 2)) = true := by decide +kernel
theorem mb_r : rtN 0 = 0 := by decide +kernel
theorem mb_s : mkY 16 0 1 2 = 3 ∧ mkR 16 0 1 2 = 0 := by decide +kernel

end Go.Proofs.YtakofbkmhmcnfabGreat

/- minorBegun: a contract. -/
namespace Go.Proofs.YtakofbkmhmcnfabGreat
open Go.RowKit W Kp Stl

theorem run_nodes (x y : Value) (w : World) : Sem.run Tryz.prog (Instr.field 50 (.agg #[x, y]) 1) w = .ok y w := by
  unfold Instr.field
  simp [go_sem]
  rfl

set_option maxRecDepth 100000 in
set_option maxHeartbeats 4000000 in
theorem minorBegun_any (w : World) : Calls Tryz.prog 12 #[] w fun e w' => e = .returned (.bool true) ∧ Below w.heap.size w w' := by
  go_enter Tryz.func12, Tryz.ntmps12
  go_wp2_with fail
  refine (start_yes 16 8 w (by omega) (by omega) (by omega)).mono ?_
  rintro e w1 ⟨c, F1, rfl, j1, ⟨k1, k2, k3, k4⟩, g1, b1⟩
  have D := do_any j1 ((Wok.start 16 8).rb (by decide) (by decide) (by decide)) (by rw [k3]; decide) (by rw [k3]; decide) (by decide) (by decide) (by decide) 0 1 2 0
  have e1 : doB c (bo0 16 8) 0 1 2 0 = true := by
    unfold doB
    rw [if_pos rfl, k3, k1]
    exact mb_b
  have e2 : (doS c (bo0 16 8) 0 1 2 0).1 = mbS := by
    unfold doS
    rw [if_pos rfl]
    unfold boM
    dsimp only
    rw [k1]
    show (⟨⟨mkY 16 0 1 2, 0, mkW 16 0 1 2 (List.replicate (16 + 8) 0), [], if 0 ≤ mkR 16 0 1 2 then (tw 2 12).set (rtN 0) (ew 3 (mkR 16 0 1 2)) else tw 2 12⟩, [], []⟩ : Ww) = mbS
    rw [mb_s.1, mb_s.2, mb_r]
    rfl
  rw [e1] at D
  generalize hS1 : doS c (bo0 16 8) 0 1 2 0 = S1 at D
  rw [hS1] at e2
  have HJ : Hid ((∀ b, F1 b → w.heap.size ≤ b) ∧ Below w.heap.size w w1 ∧ S1.1 = mbS ∧ c.a.N = 16 ∧ c.a.O = 8) := ⟨g1, b1, e2, k1, k2⟩
  clear j1 g1 b1 hS1 e1 e2 k1 k2 k3 k4
  go_wp2_with fail
  refine D.mono ?_
  clear D
  rintro e w2 ⟨F2, rfl, j2, t2⟩
  obtain ⟨h1, h2, h3, h4, h5⟩ := HJ.out
  have P := cutB_any j2 (by rw [h3]; decide)
  obtain ⟨ec1, ec2⟩ := cut_only c.a mbA S1.1 (by rw [h4]; rfl) (by rw [h5]; rfl)
  rw [ec1, ec2, h3, mb_code] at P
  have b2 := h2.trans (t2.fr.below h2.size h1)
  have g2 : ∀ b, F2 b → w.heap.size ≤ b := fun b d => (t2.sub b d).elim (h1 b) (fun d => Nat.le_trans h2.size d)
  obtain ⟨d0, _⟩ := bo_all j2
  have HJ2 : Hid ((∀ b, F2 b → w.heap.size ≤ b) ∧ Below w.heap.size w w2 ∧ c.a.N = 16) := ⟨g2, b2, h4⟩
  clear j2 t2 h1 h2 h3 h4 h5 b2 g2 ec1 ec2 HJ
  go_wp2_with fail
  refine P.mono ?_
  clear P
  rintro e w3 ⟨F3, rfl, j3, t3⟩
  obtain ⟨h1, h2, h4⟩ := HJ2.out
  have b3 := h2.trans (t3.fr.below h2.size h1)
  have P := usedB_any j3
  dsimp only at P
  rw [mb_y, mb_g] at P
  obtain ⟨d0, _, d2, _⟩ := bo_all j3
  have HJ3 : Hid ((boO c).J F3 (mbS.cut mbA, S1.2) w3 ∧ Below w.heap.size w w3 ∧ c.a.N = 16) := ⟨j3, b3, h4⟩
  clear j3 t3 h1 h2 h4 b3 HJ2
  go_wp2_with fail
  refine P.mono ?_
  clear P
  rintro e w4 ⟨rfl, b4⟩
  obtain ⟨h1, h2, h4⟩ := HJ3.out
  have j4 := (boO c).below h1 b4
  have b5 := h2.trans (b4.mono h2.size)
  have P := viewB_any j4 (by dsimp only; rw [mb_q]; decide)
  dsimp only at P
  rw [h4, mb_v] at P
  obtain ⟨d0, _⟩ := bo_all j4
  have HB : Hid (Below w.heap.size w w4) := b5
  clear h1 h2 h4 j4 b5 b4 HJ3
  go_wp2_with fail
  refine P.mono ?_
  clear P
  rintro e w5 ⟨r2, d2, na, nn, nc, rfl, _, _, rfl, b5⟩
  have HB5 : Hid (Below w.heap.size w w5) := HB.out.trans (b5.mono HB.out.size)
  clear b5 HB
  have hrn := run_nodes (.slice r2 12 d2) (.slice na 1 nc)
  go_wp2_with fail
  go_ret
  exact ⟨rfl, HB5.out⟩

end Go.Proofs.YtakofbkmhmcnfabGreat

/- Steps of a wood that is cut, that came in: a list of four numbers each. -/
namespace Go.Proofs.YtakofbkmhmcnfabGreat
open Go.ChangeShapes Go.WideShapes Go.ChangeAt Go.RowKit Go.Joins Go.Deep W Stl

theorem cellsStepC : Tryz.prog.cellsOf 31 = 4 := by kernel_rfl
theorem cellsIC : Tryz.prog.cellsOf 3 = 1 := by kernel_rfl

/-- A step: what to do, and what with. -/
abbrev S4 := Int × Int × Int × Int
/-- A number of 64 bits. -/
def J64 (a : Int) : Prop := -9223372036854775808 ≤ a ∧ a ≤ 9223372036854775807
/-- Steps that may be read. -/
def L4 (w : World) (ad : Option Addr) (l : List S4) : Prop :=
  0 < l.length → ∃ b o, ad = some ⟨b, o, none⟩ ∧ b < w.heap.size ∧ ∀ i, i < l.length → (w.cell? ⟨b, o + i * 4, none⟩ = some (.int .i64 (l.getD i (0, 0, 0, 0)).1) ∧ w.cell? ⟨b, o + i * 4 + 1, none⟩ = some (.int .i64 (l.getD i (0, 0, 0, 0)).2.1) ∧ w.cell? ⟨b, o + i * 4 + 2, none⟩ = some (.int .i64 (l.getD i (0, 0, 0, 0)).2.2.1) ∧ w.cell? ⟨b, o + i * 4 + 3, none⟩ = some (.int .i64 (l.getD i (0, 0, 0, 0)).2.2.2)) ∧
    J64 (l.getD i (0, 0, 0, 0)).2.1 ∧ J64 (l.getD i (0, 0, 0, 0)).2.2.2

theorem trod_struct4 {H : Type} {enc : TypeId × Value → H} {P : Program} {w : World} {base : Nat} {spare : Nat → Bool} {held : Bool} {t : TypeId} {f0 f1 f2 f3 : Field} {fuel : Nat} {cs : List Value} {x : DataW H × List MemPlace} (ht : P.underlying t = some (.struct #[f0, f1, f2, f3])) (h : DataW.trod enc P w base spare held fuel t cs = some x) :
    ∃ y0 y1 y2 y3 n, cs.length = P.cellsOf t ∧ DataW.trod enc P w base spare held n f0.type ((cs.drop f0.offset).take (P.cellsOf f0.type)) = some y0 ∧
      DataW.trod enc P w base spare held n f1.type ((cs.drop f1.offset).take (P.cellsOf f1.type)) = some y1 ∧ DataW.trod enc P w base spare held n f2.type ((cs.drop f2.offset).take (P.cellsOf f2.type)) = some y2 ∧
      DataW.trod enc P w base spare held n f3.type ((cs.drop f3.offset).take (P.cellsOf f3.type)) = some y3 := by
  obtain ⟨xs, n, _, rfl, hl, hlen, hf⟩ := DataW.trod_struct ht h
  match xs, hlen with
  | [y0, y1, y2, y3], _ => exact ⟨y0, y1, y2, y3, n, hl, by simpa using hf 0 f0 rfl, by simpa using hf 1 f1 rfl, by simpa using hf 2 f2 rfl, by simpa using hf 3 f3 rfl⟩

theorem list4 {α : Type} {cs : List α} (h : cs.length = 4) : ∃ c0 c1 c2 c3, cs = [c0, c1, c2, c3] := by
  match cs, h with
  | [c0, c1, c2, c3], _ => exact ⟨c0, c1, c2, c3, rfl⟩

theorem bnd64 {a : Int} (h : (Lit.int .i64 a).wf = true) : J64 a := by
  have : IntKind.i64.min ≤ a ∧ a ≤ 9223372036854775807 := by simpa [Lit.wf] using h
  exact ⟨this.1, this.2⟩

set_option maxRecDepth 100000 in
theorem open_step4 {H : Type} {enc : TypeId × Value → H} {W : World} {sp : Nat → Bool} {held : Bool} {fuel : Nat} {cs : List Value} {x : DataW H × List MemPlace}
    (hf : DataW.trod enc Tryz.prog W 0 sp held fuel 31 cs = some x) : ∃ d a b c : Int, cs = [.int .i64 d, .int .i64 a, .int .i64 b, .int .i64 c] ∧ J64 a ∧ J64 c := by
  obtain ⟨y0, y1, y2, y3, n, hl, t0, t1, t2, t3⟩ := trod_struct4 Tryz.underlying31 hf
  rw [cellsStepC] at hl
  obtain ⟨c0, c1, c2, c3, rfl⟩ := list4 hl
  obtain ⟨d, ed, _⟩ := DataW.trod_int Tryz.underlying3 t0
  obtain ⟨a, ea, _, wa⟩ := DataW.trod_int Tryz.underlying3 t1
  obtain ⟨b, eb, _⟩ := DataW.trod_int Tryz.underlying3 t2
  obtain ⟨c, ec, _, wc⟩ := DataW.trod_int Tryz.underlying3 t3
  simp [cellsIC] at ed ea eb ec
  exact ⟨d, a, b, c, by rw [ed, ea, eb, ec], bnd64 wa, bnd64 wc⟩

set_option maxRecDepth 100000 in
theorem open_cuts {H : Type} {enc : TypeId × Value → H} {W : World} {sp : Nat → Bool} {held : Bool} {fuel len cap : Nat} {ad : Option Addr} {x : DataW H × List MemPlace}
    (hf : DataW.trod enc Tryz.prog W 0 sp held fuel 22 [.slice ad len cap] = some x) : ∃ l : List S4, l.length = len ∧ L4 W ad l := by
  rcases open_slice Tryz.underlying22 hf with ⟨hcs, _⟩ | ⟨z, l, c, m, n, D, Pl, hcs, hb, hl, hm, hmm, _, hall⟩
  · simp at hcs
    obtain ⟨rfl, rfl, rfl⟩ := hcs
    exact ⟨[], rfl, fun h => by simp at h⟩
  · simp at hcs
    obtain ⟨rfl, rfl, rfl⟩ := hcs
    have hlm : len ≤ m := by rw [hmm]; split <;> omega
    have key : ∀ i, i < len → ∃ s : S4, (W.cell? (z.add (i * 4)) = some (.int .i64 s.1) ∧ W.cell? (z.add (i * 4 + 1)) = some (.int .i64 s.2.1) ∧ W.cell? (z.add (i * 4 + 2)) = some (.int .i64 s.2.2.1) ∧ W.cell? (z.add (i * 4 + 3)) = some (.int .i64 s.2.2.2)) ∧ J64 s.2.1 ∧ J64 s.2.2.2 := by
      intro i hi
      obtain ⟨cs', h1, h2⟩ := hall i (by omega)
      rw [cellsStepC] at h1
      obtain ⟨_, _, hcell⟩ := World.cells?_some h1
      obtain ⟨d, a, b, c, rfl, ha, hc⟩ := open_step4 h2
      refine ⟨(d, a, b, c), ⟨?_, ?_, ?_, ?_⟩, ha, hc⟩
      · have := hcell 0 (by omega); rw [add_add] at this; simpa using this
      · have := hcell 1 (by omega); rw [add_add] at this; simpa using this
      · have := hcell 2 (by omega); rw [add_add] at this; simpa using this
      · have := hcell 3 (by omega); rw [add_add] at this; simpa using this
    obtain ⟨S, hS⟩ := choose_lt key
    refine ⟨(List.range len).map S, by simp, fun hp => ?_⟩
    simp only [List.length_map, List.length_range] at hp ⊢
    obtain ⟨b, o, spot⟩ := z
    have h0 := (hS 0 hp).1.1
    have hspot : spot = none := by simpa [Addr.add] using World.cell?_spot h0
    subst hspot
    refine ⟨b, o, rfl, World.block_lt_of_cell? W (⟨b, o, none⟩ : Addr) (by simpa [Addr.add] using h0), fun i hi => ?_⟩
    obtain ⟨⟨k0, k1, k2, k3⟩, k5⟩ := hS i hi
    have ea : ∀ j, (⟨b, o, none⟩ : Addr).add j = ⟨b, o + j, none⟩ := fun j => by simp [Addr.add]
    rw [ea] at k0 k1 k2 k3
    have eg : ((List.range len).map S).getD i (0, 0, 0, 0) = S i := by simp [hi]
    rw [eg]
    exact ⟨⟨k0, by rw [Nat.add_assoc]; exact k1, by rw [Nat.add_assoc]; exact k2, by rw [Nat.add_assoc]; exact k3⟩, k5⟩

end Go.Proofs.YtakofbkmhmcnfabGreat

/- What the document's answers on words (WordOf, ValOf, Fits, HeadOf, PartsOf) return at whatever numbers: contracts, over the seat's own translation; nothing that was in memory turns. -/
namespace Go.Proofs.YtakofbkmhmcnfabGreat
open Go.RowKit W

theorem wf_i64 {x : Int} (h1 : -9223372036854775808 ≤ x) (h2 : x ≤ 9223372036854775807) : IntKind.i64.wrap x = x := by
  rw [IntKind.wrap_i64]; omega

end Go.Proofs.YtakofbkmhmcnfabGreat

/- What the document's answers on words that ask others (ValOf, HeadOf, PartsOf) return at whatever numbers: contracts, over the seat's own translation; nothing that was in memory turns. -/
namespace Go.Proofs.YtakofbkmhmcnfabGreat
open Go.RowKit W

set_option maxRecDepth 100000 in
set_option maxHeartbeats 400000 in
theorem fitsR_any (k f : Int) (w : World) :
    Calls Tryz.prog 108 #[.int .i64 k, .int .i64 f] w fun e w' => e = .returned (.int .i64 (hc k f)) ∧ w' = w := by
  by_cases h : hc k f = 0
  · rw [h]
    rcases hc_yes k f h with ⟨rfl, rfl⟩ | ⟨rfl, rfl⟩ | ⟨rfl, rfl⟩ | ⟨rfl, h1, h2⟩ | ⟨rfl, rfl⟩
    all_goals
      clear h
      go_enter Tryz.func108, Tryz.ntmps108
      go_wp2
      go_ret
      exact ⟨rfl, rfl⟩
  · rcases hc_no k f h with e | ⟨h1, h2, h3, h4, h5⟩
    · rw [hc_1 k f e]
      clear h
      rcases e with ⟨rfl, h⟩ | ⟨rfl, h⟩ | ⟨rfl, h⟩ | ⟨rfl, h⟩ | ⟨rfl, h⟩ | ⟨rfl, h⟩ | ⟨rfl, h⟩ | ⟨rfl, h⟩ | ⟨rfl, h⟩ | ⟨rfl, h⟩
      all_goals
        go_enter Tryz.func108, Tryz.ntmps108
        go_wp2
        go_ret
        exact ⟨rfl, rfl⟩
    · rw [hc_2 k f h1 h2 h3 h4 h5]
      clear h
      go_enter Tryz.func108, Tryz.ntmps108
      go_wp2
      go_ret
      exact ⟨rfl, rfl⟩

theorem no_match (h : Int) (c : hc (h % 16) (h / 16) ≠ 0) (k n : Int) (hk : hc k n = 0) : hw k n ≠ h := by
  have b := hc_bd k n hk
  rw [hw_yes k n hk]
  intro e
  have e1 : h % 16 = k := by omega
  have e2 : h / 16 = n := by omega
  rw [e1, e2] at c
  exact c hk

theorem one_match (h : Int) (k n : Int) (hk : hc k n = 0) (e : hw k n = h) : k = h % 16 ∧ n = h / 16 := by
  have b := hc_bd k n hk
  rw [hw_yes k n hk] at e
  omega

end Go.Proofs.YtakofbkmhmcnfabGreat

/- The document's own arena (a Room) in memory: a struct of its own block, its words in another; what its functions that only look return: contracts, over the seat's own translation; nothing that was in memory turns. -/
namespace Go.Proofs.YtakofbkmhmcnfabGreat
open Go.RowKit W

set_option maxRecDepth 100000 in
set_option maxHeartbeats 400000 in
theorem f_any (c a : Int) (w : World) :
    Calls Tryz.prog 51 #[.int .i64 c, .int .i64 a] w fun e w' => e = .returned (.agg #[.int .i64 c, .int .i64 a]) ∧ Below w.heap.size w w' := by
  go_enter Tryz.func51, Tryz.ntmps51
  go_wp2_with fail
  exact bodyPost_ret (v := .agg #[.int .i64 c, .int .i64 a]) (by simp [results, Tryz.results51, go_sem]) rfl ⟨rfl, (Below.refl _ _).alloc (Nat.le_refl _) _⟩

end Go.Proofs.YtakofbkmhmcnfabGreat

/- What the document's own arena answers and leaves where it is made, and where a thing is made in it: contracts, over the seat's own translation; no block but the room's turns. -/
namespace Go.Proofs.YtakofbkmhmcnfabGreat
open Go.RowKit W

set_option maxRecDepth 100000 in
set_option maxHeartbeats 400000 in
theorem roomFault_yes (n o : Int) (w : World) (h0 : 16 ≤ n) (h1 : n ≤ 256) (h2 : 0 ≤ o) (h3 : o ≤ 1024) :
    Calls Tryz.prog 14 #[.int .i64 n, .int .i64 o] w fun e w' => e = .returned (.agg #[.int .i64 0, .int .i64 0]) ∧ Below w.heap.size w w' := by
  go_enter Tryz.func14, Tryz.ntmps14
  go_wp2_with fail
  exact bodyPost_ret (v := .agg #[.int .i64 0, .int .i64 0]) (by simp [results, Tryz.results14, go_sem]) rfl ⟨rfl, (Below.refl _ _).alloc (Nat.le_refl _) _⟩

set_option maxRecDepth 100000 in
set_option maxHeartbeats 400000 in
theorem roomFault_no (n o : Int) (w : World) (h : n < 16 ∨ 256 < n ∨ o < 0 ∨ 1024 < o) :
    Calls Tryz.prog 14 #[.int .i64 n, .int .i64 o] w fun e w' => e = .returned (.agg #[.int .i64 1, .int .i64 (-1)]) ∧ Below w.heap.size w w' := by
  have fin : ∀ (R : Ending → World → Prop), (∀ w1, Below (w.alloc (.cells #[.int .i64 0, .int .i64 0] 28)).heap.size (w.alloc (.cells #[.int .i64 0, .int .i64 0] 28)) w1 → R (.returned (.agg #[.int .i64 1, .int .i64 (-1)])) w1) → Calls Tryz.prog 51 #[.int .i64 1, .int .i64 (-1)] (w.alloc (.cells #[.int .i64 0, .int .i64 0] 28)) R := by
    intro R hR
    refine (f_any 1 (-1) _).mono ?_
    rintro e w1 ⟨rfl, hb⟩
    exact hR w1 hb
  by_cases h1 : n < 16
  · go_enter Tryz.func14, Tryz.ntmps14
    go_wp2_with fail
    refine fin _ ?_
    intro w1 hb
    obtain ⟨c0, c1, hz⟩ := cells2 hb
    obtain ⟨_, hf⟩ := bcell hb
    have f0 := hf w.heap.size 0 (by simp)
    have f1 := hf w.heap.size 1 (by simp)
    simp [go_sem] at f0 f1
    go_wp2_with fail
    exact bodyPost_ret (v := .agg #[.int .i64 1, .int .i64 (-1)]) (by simp [results, Tryz.results14, go_sem, c0, c1]) rfl ⟨rfl, ((((Below.refl _ _).alloc (Nat.le_refl _) _).trans (hb.mono (by simp))).setCell (Nat.le_refl _) _).setCell (Nat.le_refl _) _⟩
  by_cases h2 : 256 < n
  · go_enter Tryz.func14, Tryz.ntmps14
    go_wp2_with fail
    refine fin _ ?_
    intro w1 hb
    obtain ⟨c0, c1, hz⟩ := cells2 hb
    obtain ⟨_, hf⟩ := bcell hb
    have f0 := hf w.heap.size 0 (by simp)
    have f1 := hf w.heap.size 1 (by simp)
    simp [go_sem] at f0 f1
    go_wp2_with fail
    exact bodyPost_ret (v := .agg #[.int .i64 1, .int .i64 (-1)]) (by simp [results, Tryz.results14, go_sem, c0, c1]) rfl ⟨rfl, ((((Below.refl _ _).alloc (Nat.le_refl _) _).trans (hb.mono (by simp))).setCell (Nat.le_refl _) _).setCell (Nat.le_refl _) _⟩
  by_cases h3 : o < 0
  · go_enter Tryz.func14, Tryz.ntmps14
    go_wp2_with fail
    refine fin _ ?_
    intro w1 hb
    obtain ⟨c0, c1, hz⟩ := cells2 hb
    obtain ⟨_, hf⟩ := bcell hb
    have f0 := hf w.heap.size 0 (by simp)
    have f1 := hf w.heap.size 1 (by simp)
    simp [go_sem] at f0 f1
    go_wp2_with fail
    exact bodyPost_ret (v := .agg #[.int .i64 1, .int .i64 (-1)]) (by simp [results, Tryz.results14, go_sem, c0, c1]) rfl ⟨rfl, ((((Below.refl _ _).alloc (Nat.le_refl _) _).trans (hb.mono (by simp))).setCell (Nat.le_refl _) _).setCell (Nat.le_refl _) _⟩
  have h4 : 1024 < o := by omega
  go_enter Tryz.func14, Tryz.ntmps14
  go_wp2_with fail
  refine fin _ ?_
  intro w1 hb
  obtain ⟨c0, c1, hz⟩ := cells2 hb
  obtain ⟨_, hf⟩ := bcell hb
  have f0 := hf w.heap.size 0 (by simp)
  have f1 := hf w.heap.size 1 (by simp)
  simp [go_sem] at f0 f1
  go_wp2_with fail
  exact bodyPost_ret (v := .agg #[.int .i64 1, .int .i64 (-1)]) (by simp [results, Tryz.results14, go_sem, c0, c1]) rfl ⟨rfl, ((((Below.refl _ _).alloc (Nat.le_refl _) _).trans (hb.mono (by simp))).setCell (Nat.le_refl _) _).setCell (Nat.le_refl _) _⟩

end Go.Proofs.YtakofbkmhmcnfabGreat
