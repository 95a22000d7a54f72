/- Joined: Mg11, Hp1, Sda. -/
import Derived.Test.YtalgochmjddodaaGreatJ31
import Derived.Test.YtalgochmjddodaaGreatJ18
import Derived.Test.YtalgochmjddodaaGreatJ16
import Derived.Laws.EntriesVeiled
namespace Go.Proofs.YtalgochmjddodaaGreat
open Go.RowKit W Kp Stl
def Jo (k : Ck) (z : C0) (x : Int) : Prop := aB x = true /\ (aV x ∈ k.T \/ aV x ∈ z.G)
def Et (k : Ck) (z : C0) (s : Cs) (q : List En) : Prop := ∀ e ∈ q, Jo k z e.1 /\ ∃ x0, Jo k z x0 /\ k.ml s x0 e.2
def Wqa (k : Ck) (s : Cs) (q : List En) : Prop := ∀ e ∈ q, k.al s e.2 = true \/ k.al s e.1 = false
section
variable {k : Ck} {z : C0} {s t u : Cs} {D H : List Int} {q : List En}
theorem Et.pg (h : Et k z s q) (p : Pg k s t) : Et k z t q := fun e he => by
 obtain ⟨h1, x0, h2, h3⟩ := h e he
 exact ⟨h1, x0, h2, p.ml h3⟩
theorem al_pg (p : Pg k s t) {x : Int} (h : k.al s x = true) : k.al t x = true := by
 unfold Ck.al Ck.ls at h ⊢
 cases c : k.yg x
 ·rfl
 ·rw [c] at h
  have h1 : s.f (aV x) ≠ -1 := by
   intro e
   rw [e] at h
   simp at h
  rw [p.f _ h1]
  simpa using h1
theorem al_old {x : Int} (h : k.yg x = false) : k.al s x = true := by
 unfold Ck.al Ck.ls
 rw [h]
 rfl
theorem Et.wkl : ∀ (l : List Nat) (t : (Cs × List En) × Bool) (H : List Int), LI k z t.1.1 H D -> WE k z t.1.1 H -> (∀ i ∈ l, i < t.1.2.length) -> Et k z t.1.1 t.1.2 -> Et k z (l.foldl (wkP k.al k.br) t).1.1 (l.foldl (wkP k.al k.br) t).1.2
 | [], _, _, _, _, _, e => e
 | i :: l, t, H, h, w, hl, e => by
  rw [List.foldl_cons]
  by_cases c : (k.al t.1.1 (t.1.2.getD i (0, 0)).2 || !k.al t.1.1 (t.1.2.getD i (0, 0)).1) = true
  ·have e1 : wkP k.al k.br t i = t := by unfold wkP; rw [if_pos c]
   rw [e1]
   exact Et.wkl l t H h w (fun j hj => hl j (List.mem_cons_of_mem _ hj)) e
  ·have e1 : wkP k.al k.br t i = (((k.br t.1.1 (t.1.2.getD i (0, 0)).2).2, t.1.2.set i ((t.1.2.getD i (0, 0)).1, (k.br t.1.1 (t.1.2.getD i (0, 0)).2).1)), true) := by
    unfold wkP
    rw [if_neg c]
   have hi := hl i (by simp)
   have hm : t.1.2.getD i (0, 0) ∈ t.1.2 := by
    rw [List.getD_eq_getElem?_getD, List.getElem?_eq_getElem hi]
    exact List.getElem_mem hi
   obtain ⟨H1, l1, w1, p1, _⟩ := Ru.br (k := k) (z := z) (D := D) (s := t.1.1) (t.1.2.getD i (0, 0)).2 H h w
   obtain ⟨_, _, _, _, _, m1, _⟩ := h.mi.br (t.1.2.getD i (0, 0)).2
   rw [e1]
   refine Et.wkl l _ H1 l1 w1 (fun j hj => ?_) ?_
   ·show j < (t.1.2.set i _).length
    rw [List.length_set]
    exact hl j (List.mem_cons_of_mem _ hj)
   ·intro d hd
    have hd : d ∈ t.1.2.set i ((t.1.2.getD i (0, 0)).1, (k.br t.1.1 (t.1.2.getD i (0, 0)).2).1) := hd
    rcases List.mem_or_eq_of_mem_set hd with hd | rfl
    ·exact e.pg p1 d hd
    ·obtain ⟨g1, x0, g2, g3⟩ := e _ hm
     exact ⟨g1, x0, g2, m1 x0 g3⟩
theorem Et.wa {t : Cs × List En} (h : LI k z t.1 H D) (w : WE k z t.1 H) (e : Et k z t.1 t.2) : Et k z (k.wa t).1.1 (k.wa t).1.2 :=
 Et.wkl (List.range t.2.length) (t, false) H h w (fun _ hi => List.mem_range.1 hi) e
theorem Et.spr : ∀ (n : Nat) (t : Cs × List En) (H : List Int), LI k z t.1 H D -> WE k z t.1 H -> Et k z t.1 t.2 -> Et k z (k.spr n t).1 (k.spr n t).2
 | 0, _, _, _, _, e => e
 | n + 1, t, H, h, w, e => by
  obtain ⟨H1, l1, w1, p1, _⟩ := Ru.lb (k := k) (z := z) (D := D) (s := t.1) (k.O + 1) H h w
  obtain ⟨H2, l2, w2, p2, _⟩ := Ru.kv (k := k) (z := z) (D := D) (s := k.lb (k.O + 1) t.1) H1 l1 w1
  have e2 : Et k z (k.kv (k.lb (k.O + 1) t.1)).2 t.2 := e.pg (p1.trans p2)
  obtain ⟨H3, l3, w3, _, _⟩ := Ru.wa (k := k) (z := z) (D := D) ((k.kv (k.lb (k.O + 1) t.1)).2, t.2) H2 l2 w2
  have e3 := Et.wa (t := ((k.kv (k.lb (k.O + 1) t.1)).2, t.2)) l2 w2 e2
  unfold Ck.spr
  split
  ·exact Et.spr n ((k.kv (k.lb (k.O + 1) t.1)).2, t.2) H2 l2 w2 e2
  ·split
   ·exact Et.spr n _ H3 l3 w3 e3
   ·exact e3
theorem wkl_ok (k : Ck) : ∀ (l : List Nat) (t : (Cs × List En) × Bool), (l.foldl (wkP k.al k.br) t).2 = false -> ∀ i ∈ l, k.al t.1.1 (t.1.2.getD i (0, 0)).2 = true \/ k.al t.1.1 (t.1.2.getD i (0, 0)).1 = false
 | [], _, _, _, hi => by cases hi
 | j :: l, t, h, i, hi => by
  rw [List.foldl_cons] at h
  obtain ⟨_, h2⟩ := wkl_idle k l _ h
  by_cases c : (k.al t.1.1 (t.1.2.getD j (0, 0)).2 || !k.al t.1.1 (t.1.2.getD j (0, 0)).1) = true
  ·have e1 : wkP k.al k.br t j = t := by unfold wkP; rw [if_pos c]
   rw [e1] at h
   rcases List.mem_cons.1 hi with rfl | hi
   ·simpa using c
   ·exact wkl_ok k l t h i hi
  ·unfold wkP at h2
   rw [if_neg c] at h2
   cases h2
theorem spr_wq : ∀ (n : Nat) (t : Cs × List En) (H : List Int), LI k z t.1 H D -> WE k z t.1 H -> CB k t.1 -> k.mu t.1 < n -> Wqa k (k.spr n t).1 (k.spr n t).2
 | 0, t, H, _, _, _, e => absurd e (by omega)
 | n + 1, t, H, h, w, hb, e => by
  obtain ⟨H1, l1, w1, _, _, _⟩ := LI.lbw (k.O + 1) h w
  obtain ⟨c1, c2, c3⟩ := CI.lb h.mi.ci hb (k.O + 1)
  obtain ⟨d1, d2, d3, d4⟩ := CI.kv c1 c2
  obtain ⟨H2, l2, w2, _, _⟩ := l1.kv w1
  unfold Ck.spr
  cases hk : (k.kv (k.lb (k.O + 1) t.1)).1
  ·rw [if_neg (by simp)]
   obtain ⟨f1, f2, f3, f4, f5⟩ := CI.wa (s := ((k.kv (k.lb (k.O + 1) t.1)).2, t.2)) d1 d2
   cases hw : (k.wa ((k.kv (k.lb (k.O + 1) t.1)).2, t.2)).2
   ·rw [if_neg (by simp), wa_idle k _ hw]
    intro d hd
    obtain ⟨i, hi, ei⟩ := List.mem_iff_getElem.1 hd
    have q := wkl_ok k (List.range t.2.length) (((k.kv (k.lb (k.O + 1) t.1)).2, t.2), false) hw i (List.mem_range.2 hi)
    have e2 : t.2.getD i (0, 0) = d := by
     rw [List.getD_eq_getElem?_getD, List.getElem?_eq_getElem hi, ei]
     rfl
    dsimp only at q
    rw [e2] at q
    exact q
   ·rw [if_pos rfl]
    obtain ⟨H3, l3, w3, _, _⟩ := Ru.wa (k := k) (z := z) (D := D) ((k.kv (k.lb (k.O + 1) t.1)).2, t.2) H2 l2 w2
    have h5 := f5 hw
    dsimp only at h5
    exact spr_wq n _ H3 l3 w3 f2 (by omega)
  ·rw [if_pos rfl]
   have h5 := d4 hk
   exact spr_wq n ((k.kv (k.lb (k.O + 1) t.1)).2, t.2) H2 l2 w2 d2 (by dsimp only; omega)
def Sq (k : Ck) (z : C0) (D : List Int) (t : Cs × List En) : Prop := ∃ H, LI k z t.1 H D /\ WE k z t.1 H /\ CB k t.1 /\ Et k z t.1 t.2 /\ Wqa k t.1 t.2
theorem Sq.sp {t : Cs × List En} (h : LI k z t.1 H D) (w : WE k z t.1 H) (hb : CB k t.1) (e : Et k z t.1 t.2) : Sq k z D (k.sp t) := by
 obtain ⟨K, m1, m2, _, _⟩ := Ru.sp (k := k) (z := z) (D := D) t H h w
 exact ⟨K, m1, m2, (spr_cb _ t h.mi.ci hb).2, Et.spr _ t H h w e, spr_wq _ t H h w hb (by omega)⟩
theorem Sq.cm {t : Cs × List En} (h : Sq k z D t) {e : En} (j1 : Jo k z e.1) (j2 : Jo k z e.2) : Sq k z D (cm (noSd Cs) (fun s x => k.al s.1 x) k.ke t e).2 := by
 cases c : k.al t.1 e.1
 ·rw [cm_no (o := noSd Cs) (is := fun s x => k.al s.1 x) (kp := k.ke) (s := t) (e := e) c]
  exact h
 ·rw [cm_yes (o := noSd Cs) (is := fun s x => k.al s.1 x) (kp := k.ke) (s := t) (e := e) c]
  obtain ⟨H, h1, h2, h3, h4, h5⟩ := h
  obtain ⟨H1, l1, w1, p1, _⟩ := Ru.br (k := k) (z := z) (D := D) (s := t.1) e.2 H h1 h2
  obtain ⟨_, _, _, y1, _, m1, _⟩ := h1.mi.br e.2
  obtain ⟨_, e1, e2, e3⟩ := br_rs k t.1 e.2
  have hb : CB k (k.br t.1 e.2).2 := ⟨by rw [e1, e3]; exact h3.wk, by rw [e2, e3]; exact h3.ep⟩
  obtain ⟨K, q1, q2, q3, q4, q5⟩ := Sq.sp (t := ((k.br t.1 e.2).2, t.2)) l1 w1 hb (h4.pg p1)
  obtain ⟨_, _, _, p2, _⟩ := Ru.sp (k := k) (z := z) (D := D) ((k.br t.1 e.2).2, t.2) H1 l1 w1
  show Sq k z D ((k.sp ((k.br t.1 e.2).2, t.2)).1, (k.sp ((k.br t.1 e.2).2, t.2)).2 ++ [(e.1, (k.br t.1 e.2).1)])
  refine ⟨K, q1, q2, q3, fun d hd => ?_, fun d hd => ?_⟩
  ·rcases List.mem_append.1 hd with hd | hd
   ·exact q4 d hd
   ·rw [List.mem_singleton.1 hd]
    exact ⟨j1, e.2, j2, p2.ml (m1 _ (Or.inl rfl))⟩
  ·rcases List.mem_append.1 hd with hd | hd
   ·exact q5 d hd
   ·rw [List.mem_singleton.1 hd]
    exact Or.inl (al_old y1)
theorem Sq.pl : ∀ (l : List En) (u : List En × List En × (Cs × List En)), Sq k z D u.2.2 -> (∀ e ∈ l, Jo k z e.1 /\ Jo k z e.2) -> Sq k z D (l.foldl (pstep (Go.Proofs.YtalgochmjddodaaGreat.cm (noSd Cs) (fun s x => k.al s.1 x) k.ke)) u).2.2
 | [], _, h, _ => h
 | e :: l, u, h, hl => by
  rw [List.foldl_cons]
  have key : (pstep (Go.Proofs.YtalgochmjddodaaGreat.cm (noSd Cs) (fun s x => k.al s.1 x) k.ke) u e).2.2 = (Go.Proofs.YtalgochmjddodaaGreat.cm (noSd Cs) (fun s x => k.al s.1 x) k.ke u.2.2 e).2 := by
   unfold pstep
   split <;> rfl
  refine Sq.pl l _ ?_ (fun d hd => hl d (List.mem_cons_of_mem _ hd))
  rw [key]
  exact h.cm (hl e (by simp)).1 (hl e (by simp)).2
theorem Sq.trn : ∀ (n : Nat) (t : Cs × List En) (d : List En), Sq k z D t -> (∀ e ∈ d, Jo k z e.1 /\ Jo k z e.2) -> Sq k z D (trn (Go.Proofs.YtalgochmjddodaaGreat.cm (noSd Cs) (fun s x => k.al s.1 x) k.ke) n t d).1
 | 0, _, _, h, _ => h
 | n + 1, t, d, h, hd => by
  have p1 := Sq.pl d ([], [], t) h hd
  have p1 : Sq k z D (pts (Go.Proofs.YtalgochmjddodaaGreat.cm (noSd Cs) (fun s x => k.al s.1 x) k.ke) t d).2.2 := p1
  by_cases c : (pts (Go.Proofs.YtalgochmjddodaaGreat.cm (noSd Cs) (fun s x => k.al s.1 x) k.ke) t d).1.length = 0
  ·rw [trn_stop _ _ _ _ c]
   exact p1
  ·rw [trn_go _ _ _ _ c]
   exact Sq.trn n _ _ p1 (fun e he => hd e (pts_mem _ t d e (Or.inr he)))
theorem mw_g (k : Ck) : ∀ (l : List Int) (s : Cs), (l.foldl k.mw1 s).g = s.g
 | [], _ => rfl
 | x :: l, s => by
  rw [List.foldl_cons, mw_g k l]
  unfold Ck.mw1
  split <;> rfl
theorem be_g (k : Ck) : ∀ (l : List Int) (s : Cs), (l.foldl k.be1 s).g = s.g
 | [], _ => rfl
 | x :: l, s => by
  rw [List.foldl_cons, be_g k l]
  rfl
end
section
variable {a : Wc} {S : Ww} {Y G : List Int}
theorem settled_sq (h : KInv a S.s Y G) (hb : Wbd a S.s) (hr : S.s.y <= a.O - S.s.g) (he : Eo a S) : ∃ D, Sq (S.s.k0 a) (S.s.z0 G) D ((S.s.k0 a).sS (S.t3 a) S.r) /\ Pg (S.s.k0 a) (S.t3 a).1 (S.s4 a) := by
 have hT : (S.s.k0 a).T = Y := Tw_eq h.inv.full hb.n1 hb.y1 hb.o1 hb.g1
 have jo : ∀ x, tB a.N S.s.y S.s.g S.s.ws x = true -> Jo (S.s.k0 a) (S.s.z0 G) x := fun x hx => by
  obtain ⟨q1, q2⟩ := (tB_iff (O := a.O) h.inv.full hb.n1 hb.y1 hb.o1 hb.g1).1 hx
  refine ⟨q1, ?_⟩
  rw [hT]
  exact q2
 have L0 := LI.start h.inv.full hb.n0 hb.n1 hb.o1 hb.y1 hb.g1 hb.l1 hr
 have W0 := WE.start a S.s G
 obtain ⟨H1, L1, p1, ⟨H1', e1⟩, l1, y1, _, m1⟩ := L0.kr 12 (by show 12 <= S.s.rs.length; rw [hb.r1]; exact Nat.le_refl _)
 have W1 := W0.kr L0.mi 12 L1.mi p1 ⟨_, e1⟩
 have eth : thO a.N S.s.y (S.s.s1 a).g (S.s.s1 a).ws = G ++ H1 := (L1.mi.full.lists (O := a.O) hb.n1 hb.y1 hb.o1 L1.mi.ci.hg).2
 have enx : (S.s.s1 a).nx = ((S.s.k0 a).N : Int) + (S.s.z0 G).g := (kr_wk (S.s.k0 a) (S.s.s0 a) 12).2.2
 have hzt : Tile ((S.s.k0 a).l0 (S.s.z0 G)) (((S.s.k0 a).N : Int) + (S.s.z0 G).g) (S.s.k0 a).N (S.s.z0 G).G := h.inv.full.to
 obtain ⟨H2, D2, L2, W2, p2, ⟨H2', e2⟩, _, hD⟩ := LI.lmw (nC a.O) S.s.M hzt (G ++ H1) L1 W1 (fun x hx => (List.mem_append.1 hx).imp id (fun d => L1.mi.hlo x d))
 have es2 : (G ++ H1).foldl ((S.s.k0 a).lm1 (((S.s.k0 a).N : Int) + (S.s.z0 G).g) (nC a.O) S.s.M) ((S.s.k0 a).kr (S.s.s0 a) 12) = S.s.s2 a := by
  unfold Wst.s2 Ck.lm
  rw [eth, enx]
  rfl
 have hlen := lm_len (S.s.k0 a) (((S.s.k0 a).N : Int) + (S.s.z0 G).g) (nC a.O) S.s.M (G ++ H1) ((S.s.k0 a).kr (S.s.s0 a) 12)
 rw [es2] at L2 W2 p2 hlen
 have hle : (G ++ H1).length <= 2000 := by
  rw [<- eth]
  exact ths_le _ _
 obtain ⟨q1, q2, q3⟩ := kr_wk (S.s.k0 a) (S.s.s0 a) 12
 have cb : CB (S.s.k0 a) (S.s.s2 a) := by
  obtain ⟨u1, u2, u3, _⟩ := hlen
  rw [q1] at u1
  rw [q2] at u2
  rw [q3] at u3
  have u1 : (S.s.s2 a).wk.length <= 0 + (G ++ H1).length := u1
  have u2 : (S.s.s2 a).ep.length <= 0 + (G ++ H1).length := u2
  have u3 : (S.s.s2 a).nx = (a.N : Int) + S.s.g := u3
  have o1 := hb.o1
  refine ⟨?_, ?_⟩
  ·rw [u3]
   show (S.s.s2 a).wk.length + ((a.N : Int) + a.O + 13 - ((a.N : Int) + S.s.g)).toNat <= 4000
   omega
  ·rw [u3]
   show (S.s.s2 a).ep.length + ((a.N : Int) + a.O + 13 - ((a.N : Int) + S.s.g)).toNat <= 4000
   omega
 have key : ∀ s2 : Cs, LI (S.s.k0 a) (S.s.z0 G) s2 H2 D2 -> WE (S.s.k0 a) (S.s.z0 G) s2 H2 -> CB (S.s.k0 a) s2 -> Sq (S.s.k0 a) (S.s.z0 G) D2 ((S.s.k0 a).sp (s2, S.q)) := fun s2 l w b =>
  Sq.sp (t := (s2, S.q)) l w b (fun e hq => ⟨jo _ (he e (Or.inr hq)).1, e.2, jo _ (he e (Or.inr hq)).2, Or.inl rfl⟩)
 have s3 : Sq (S.s.k0 a) (S.s.z0 G) D2 (S.t3 a) := by
  unfold Ww.t3
  exact key _ L2 W2 cb
 refine ⟨D2, Sq.trn _ (S.t3 a) _ s3 (fun e hq => ?_), ?_⟩
 ·have hq := (List.mem_filter.1 hq).1
  exact ⟨jo _ (he e (Or.inl hq)).1, jo _ (he e (Or.inl hq)).2⟩
 ·obtain ⟨K, r1, r2, _⟩ := s3
  obtain ⟨_, _, _, p3, _⟩ := Ru.sS (k := S.s.k0 a) (z := S.s.z0 G) (D := D2) (S.t3 a) S.r K r1 r2
  exact p3
theorem Eo.cut (h : KInv a S.s Y G) (hb : Wbd a S.s) (he : Eo a S) : Eo a (S.cut a) := by
 cases hf : S.full a
 ·have hr : S.s.y <= a.O - S.s.g := by
   unfold Ww.full at hf
   have := of_decide_eq_false hf
   omega
  obtain ⟨K, D, c⟩ := cut_rest h hb hr
  obtain ⟨D2, ⟨H, s1, s2, _, s4, s5⟩, pg⟩ := settled_sq h hb hr he
  have hT : (S.s.k0 a).T = Y := Tw_eq h.inv.full hb.n1 hb.y1 hb.o1 hb.g1
  have hN := hb.n1
  have hO := hb.o1
  have hg := c.li.mi.ci.hg
  have eN : (S.s.k0 a).N = a.N := rfl
  have eO : (S.s.k0 a).O = a.O := rfl
  have g6 : (S.s6 a).g = (S.s4 a).g := (be_g _ _ _).trans (mw_g _ _ _)
  have F6 := (c.done h hb).full
  have eS : S.cut a = ⟨⟨0, (S.s6 a).g, (S.s6 a).ws, [], (S.s6 a).rs⟩, (S.s.k0 a).sR (S.t3 a) S.r, (S.s.k0 a).sQ (S.t3 a) S.r⟩ := by
   unfold Ww.cut
   rw [if_neg (by rw [hf]; simp)]
  have fin : ∀ x, aB x = true -> aV x ∈ G ++ K -> tB a.N (S.cut a).s.y (S.cut a).s.g (S.cut a).s.ws x = true := fun x h1 h2 => by
   rw [eS]
   exact (tB_iff (O := a.O) F6 hN (Nat.zero_le _) hO (by rw [g6]; exact hg)).2 ⟨h1, Or.inr h2⟩
  have mvd : ∀ v ∈ (S.s.k0 a).T, (S.s4 a).f v ≠ -1 -> aB (ew 3 ((S.s4 a).f v)) = true /\ aV (ew 3 ((S.s4 a).f v)) ∈ G ++ K := fun v hv hfv => by
   have hH := c.li.mi.fh _ hv hfv
   have hbd := c.li.mi.bdH hH
   obtain ⟨n, hn⟩ : ∃ n : Nat, (S.s4 a).f v = n := ⟨((S.s4 a).f v).toNat, by omega⟩
   rw [hn]
   obtain ⟨w1, w2⟩ := ew_at n (by omega)
   rw [w2, <- hn]
   rw [<- hn] at w1
   exact ⟨w1, List.mem_append_right _ hH⟩
  have ygT : ∀ x, (S.s.k0 a).yg x = true -> aV x ∈ (S.s.k0 a).T := fun x hx => by
   unfold Ck.yg at hx
   rw [Bool.and_eq_true] at hx
   simpa using hx.2
  have key : ∀ x, Jo (S.s.k0 a) (S.s.z0 G) x -> (S.s.k0 a).al (S.s4 a) x = true -> tB a.N (S.cut a).s.y (S.cut a).s.g (S.cut a).s.ws ((S.s.k0 a).nw (S.s4 a) x) = true := fun x hj ha => by
   cases hy : (S.s.k0 a).yg x
   ·have e1 : (S.s.k0 a).nw (S.s4 a) x = x := by unfold Ck.nw; rw [hy]; rfl
    rw [e1]
    refine fin x hj.1 (List.mem_append_left _ ?_)
    rcases hj.2 with q | q
    ·unfold Ck.yg at hy
     rw [hj.1] at hy
     simp at hy
     exact absurd q hy
    ·exact q
   ·have hfx : (S.s4 a).f (aV x) ≠ -1 := fun e => by
     unfold Ck.al Ck.ls at ha
     rw [hy, e] at ha
     simp at ha
    have e1 : (S.s.k0 a).nw (S.s4 a) x = ew 3 ((S.s4 a).f (aV x)) := by unfold Ck.nw; rw [hy, if_pos (by simp [hfx])]
    rw [e1]
    obtain ⟨w1, w2⟩ := mvd _ (ygT x hy) hfx
    exact fin _ w1 w2
  have key2 : ∀ x0 x, Jo (S.s.k0 a) (S.s.z0 G) x0 -> (S.s.k0 a).ml (S.s4 a) x0 x -> (S.s.k0 a).al (S.s4 a) x = true -> tB a.N (S.cut a).s.y (S.cut a).s.g (S.cut a).s.ws ((S.s.k0 a).nw (S.s4 a) x) = true := fun x0 x hj hm ha => by
   rcases hm with rfl | ⟨m1, m2, m3⟩
   ·exact key _ hj ha
   ·obtain ⟨w1, w2⟩ := mvd _ (ygT x0 m1) m2
    rw [<- m3] at w1 w2
    have hy : (S.s.k0 a).yg x = false := c.li.mi.noY w2
    have e1 : (S.s.k0 a).nw (S.s4 a) x = x := by unfold Ck.nw; rw [hy]; rfl
    rw [e1]
    exact fin _ w1 w2
  have jo : ∀ x, tB a.N S.s.y S.s.g S.s.ws x = true -> Jo (S.s.k0 a) (S.s.z0 G) x := fun x hx => by
   obtain ⟨q1, q2⟩ := (tB_iff (O := a.O) h.inv.full hb.n1 hb.y1 hb.o1 hb.g1).1 hx
   refine ⟨q1, ?_⟩
   rw [hT]
   exact q2
  intro e hm
  rcases hm with hm | hm
  ·have e1 : (S.cut a).r = (S.s.k0 a).sR (S.t3 a) S.r := by rw [eS]
   rw [e1] at hm
   have hm : e ∈ ((S.r.filter (fun e => (S.s.k0 a).al (S.t3 a).1 e.2)).filter (fun e => (S.s.k0 a).al (S.s4 a) e.1)).map fun e => ((S.s.k0 a).nw (S.s4 a) e.1, (S.s.k0 a).nw (S.s4 a) e.2) := hm
   obtain ⟨e0, h1, h2⟩ := List.mem_map.1 hm
   obtain ⟨h3, h4⟩ := List.mem_filter.1 h1
   obtain ⟨h5, h6⟩ := List.mem_filter.1 h3
   obtain ⟨j1, j2⟩ := he e0 (Or.inl h5)
   rw [<- h2]
   exact ⟨key _ (jo _ j1) h4, key _ (jo _ j2) (al_pg pg h6)⟩
  ·have e1 : (S.cut a).q = (S.s.k0 a).sQ (S.t3 a) S.r := by rw [eS]
   rw [e1] at hm
   have hm : e ∈ (((S.s.k0 a).sS (S.t3 a) S.r).2.filter (fun e => (S.s.k0 a).al (S.s4 a) e.1)).map fun e => ((S.s.k0 a).nw (S.s4 a) e.1, (S.s.k0 a).nw (S.s4 a) e.2) := hm
   obtain ⟨e0, h1, h2⟩ := List.mem_map.1 hm
   obtain ⟨h3, h4⟩ := List.mem_filter.1 h1
   obtain ⟨j1, x0, j2, j3⟩ := s4 e0 h3
   rw [<- h2]
   refine ⟨key _ j1 h4, key2 x0 _ j2 j3 ?_⟩
   rcases s5 e0 h3 with q | q
   ·exact q
   ·have h4 : (S.s.k0 a).al (S.s4 a) e0.1 = true := h4
    have q : (S.s.k0 a).al (S.s4 a) e0.1 = false := q
    rw [h4] at q
    cases q
 ·have eS : S.cut a = S := by unfold Ww.cut; rw [if_pos hf]
  rw [eS]
  exact he
end
end Go.Proofs.YtalgochmjddodaaGreat

namespace Go.Proofs.YtalgochmjddodaaGreat
open Go.RowKit W Kp Stl
def Ww.kx (a : Wc) (S : Ww) (x : Int) : Int := if tB a.N S.s.y S.s.g S.s.ws x = true then pk (ld a.N S.s.y S.s.g S.s.ws (aV x)) else 0
def Ww.fx (a : Wc) (S : Ww) (x : Int) : Int := if tB a.N S.s.y S.s.g S.s.ws x = true then pf (ld a.N S.s.y S.s.g S.s.ws (aV x)) else 0
def Ww.ex (a : Wc) (S : Ww) (x : Int) : Int := if tB a.N S.s.y S.s.g S.s.ws x = true then pc (ld a.N S.s.y S.s.g S.s.ws (aV x)) else 2
def Ww.room (a : Wc) (S : Ww) (m : Int) : Int × Ww := if m <= (a.N : Int) - S.s.y then (0, S) else if (S.s.y : Int) <= (a.O : Int) - S.s.g then (S.code a, S.cut a) else (S.gcode a, S.gcut a)
def Ww.put (a : Wc) (S : Ww) (kd : Int) (rl : List Nat) : Ww := ⟨{ S.s with y := S.s.y + 1 + rl.length, ws := putF S.s.rs S.s.y (mkW a.N S.s.y kd rl.length S.s.ws) rl rl.length }, S.r, S.q⟩
def Ww.grow (a : Wc) (S : Ww) (kd : Int) (rl : List Nat) : Int × Int × Ww := if (S.room a (1 + rl.length)).1 = 0 then (ew 3 (S.room a (1 + rl.length)).2.s.y, 0, (S.room a (1 + rl.length)).2.put a kd rl) else (0, (S.room a (1 + rl.length)).1, (S.room a (1 + rl.length)).2)
def pqI (g : Int) (q : List En) : Nat := q.findIdx (fun e => e.1 == g)
def Ww.pop (a : Wc) (S : Ww) (x : Int) : Int × Int × Ww :=
 if S.kx a x = 5 then (if pqI x S.q < S.q.length then ((S.q.getD (pqI x S.q) (0, 0)).2, 0, ⟨S.s, S.r, S.q.take (pqI x S.q) ++ S.q.drop (pqI x S.q + 1)⟩) else (0, 4, S)) else (0, 2, S)
def Ww.len (a : Wc) (S : Ww) (x : Int) : Int × Int × Ww := if S.ex a x = 0 /\ S.kx a x ≠ 5 then (ew 1 (S.fx a x), vc 1 (S.fx a x), S) else (0, 2, S)
def Ww.rt (a : Wc) (S : Ww) (k : Int) (A B : Nat) (I n : Int) : Int × Int × Ww :=
 if k = 1 then (ew 1 n, vc 1 n, S) else if k = 3 then (S.s.rs.getD A 0, 0, S) else if k = 4 then S.grow a 1 [A, B] else if k = 5 then S.grow a 2 (List.replicate n.toNat A)
 else if k = 6 then S.grow a 3 [A, B] else if k = 7 then S.grow a 4 [A, B] else if k = 8 then S.grow a 5 [] else if k = 10 then S.pop a (S.s.rs.getD A 0)
 else if k = 11 then ((if fcC a.N S.s.y S.s.g S.s.ws (S.s.rs.getD A 0) I = 0 then ld a.N S.s.y S.s.g S.s.ws (aV (S.s.rs.getD A 0) + 1 + I) else 0), fcC a.N S.s.y S.s.g S.s.ws (S.s.rs.getD A 0) I, S)
 else if k = 13 then S.len a (S.s.rs.getD A 0) else if k = 14 then (if S.s.rs.getD A 0 = S.s.rs.getD B 0 then ew 1 1 else ew 1 0, 0, S) else (2, 0, S)
def Ww.reg (a : Wc) (S : Ww) (t g : Int) : Int × Ww :=
 if S.ex a t = 0 then (if S.kx a g = 5 then (if 24 <= S.r.length + S.q.length then (3, S) else (0, ⟨S.s, S.r ++ [(g, t)], S.q⟩)) else (2, S)) else (S.ex a t, S)
def Ww.set (a : Wc) (S : Ww) (x i z : Int) : Ww := ⟨{ S.s with ws := stW a.N S.s.y S.s.g S.s.ws x i z, M := stM a.N S.s.y S.s.g S.s.ws x i z (nC a.O) S.s.M }, S.r, S.q⟩
def Ww.st (S : Ww) (R : Nat) (x : Int) : Ww := ⟨{ S.s with rs := S.s.rs.set R x }, S.r, S.q⟩
def Ww.hd (a : Wc) (S : Ww) (k R A B I n : Int) : Int × Ww :=
 if ckC k R A B n = 0 then (if k = 9 then S.reg a (S.s.rs.getD A.toNat 0) (S.s.rs.getD B.toNat 0) else if k = 12 then (fcC a.N S.s.y S.s.g S.s.ws (S.s.rs.getD A.toNat 0) I, S.set a (S.s.rs.getD A.toNat 0) I (S.s.rs.getD B.toNat 0))
  else if k = 15 then (S.code a, S.cut a) else if k = 16 then (S.gcode a, S.gcut a)
  else if (S.rt a k A.toNat B.toNat I n).2.1 = 0 then (0, (S.rt a k A.toNat B.toNat I n).2.2.st R.toNat (S.rt a k A.toNat B.toNat I n).1) else ((S.rt a k A.toNat B.toNat I n).2.1, (S.rt a k A.toNat B.toNat I n).2.2))
 else (ckC k R A B n, S)
theorem mw_rs (k : Ck) : ∀ (l : List Int) (s : Cs), (l.foldl k.mw1 s).rs = s.rs
 | [], _ => rfl
 | x :: l, s => by
  rw [List.foldl_cons, mw_rs k l]
  unfold Ck.mw1
  split <;> rfl
theorem be_rs (k : Ck) : ∀ (l : List Int) (s : Cs), (l.foldl k.be1 s).rs = s.rs
 | [], _ => rfl
 | x :: l, s => by
  rw [List.foldl_cons, be_rs k l]
  rfl
section
variable {a : Wc} {S : Ww} {Y G : List Int}
theorem KInv.cutb (h : KInv a S.s Y G) (hb : Wbd a S.s) : Wbd a (S.cut a).s := by
 unfold Ww.cut
 cases hf : S.full a
 ·have hr : S.s.y <= a.O - S.s.g := by
   unfold Ww.full at hf
   have := of_decide_eq_false hf
   omega
  obtain ⟨K, D, c⟩ := cut_rest h hb hr
  rw [if_neg (by simp)]
  have c4 := c.li.mi.ci
  have c5 : CI (S.s.k0 a) (S.s5 a) := (c4.mw (fun x hx => (c4.wk0 x hx).1)).1
  have c6 : CI (S.s.k0 a) (S.s6 a) := (c5.be (fun x hx => (c5.ep0 x hx).1)).1
  have e : (S.s6 a).rs = (S.s4 a).rs := (be_rs _ _ _).trans (mw_rs _ _ _)
  exact ⟨hb.n0, hb.n1, hb.o1, Nat.zero_le _, c6.hg, c6.len, by rw [e]; exact c.rl⟩
 ·rw [if_pos rfl]
  exact hb
theorem KInv.gcutb (h : KInv a S.s Y G) (hb : Wbd a S.s) : Wbd a (S.gcut a).s := by
 cases hf : S.jfull a
 ·obtain ⟨_, g, _⟩ := great_in h hb hf
  exact (g.gc.inv h hb g.al).2
 ·have eG : S.gcut a = S := by unfold Ww.gcut; rw [if_pos hf]
  rw [eG]
  exact hb
theorem KInv.store {s : Wst} (h : KInv a s Y G) (hb : Wbd a s) {v i z : Int} (hv : v ∈ Y) (i0 : 0 <= i) (i1 : i < pf (ld a.N s.y s.g s.ws v)) (hz : aB z = true -> aV z ∈ Y \/ aV z ∈ G) : KInv a { s with ws := s.ws.set (v + 1 + i).toNat z } Y G := by
 refine ⟨h.inv.set hb.l1 hb.y1 hb.g1 (Or.inl hv) i0 i1 hz, ?_⟩
 obtain ⟨_, hk⟩ := h.inv.full.set (z := z) hb.l1 hb.y1 hb.g1 (Or.inl hv) i0 i1
 have f1 := field_y h.inv.full hv i0 i1
 have hyN := hb.y1
 have hl := hb.l1
 intro u hu j j0 j1 ha hyo
 dsimp only at j1 ha hyo
 rw [hk u (Or.inr hu)] at j1
 have f2 := field_o h.inv.full hu j0 j1
 have hi := field_i h.inv.full (Or.inr hu) j0 j1
 have e1 : ld a.N s.y s.g (s.ws.set (v + 1 + i).toNat z) (u + 1 + j) = ld a.N s.y s.g s.ws (u + 1 + j) := by
  rw [ld_in hi, ld_in hi, getD_set _ _ _ _ (by omega), if_neg (by omega)]
 rw [e1] at ha hyo
 exact h.cd u hu j j0 j1 ha hyo
end
theorem KInv.any {a : Wc} {s : Wst} {Y G : List Int} (h : KInv a s Y G) (i : Nat) (ha : aB (s.rs.getD i 0) = true) : aV (s.rs.getD i 0) ∈ Y \/ aV (s.rs.getD i 0) ∈ G := by
 by_cases hi : i < s.rs.length
 ·exact h.inv.at i hi ha
 ·rw [List.getD_eq_getElem?_getD, List.getElem?_eq_none (by omega)] at ha
  exact absurd ha (by decide)
theorem fil_len (ws : List Int) (y : Nat) (x : Int) : ∀ k, (fil ws y x k).length = ws.length
 | 0 => by simp [fil]
 | k + 1 => by
  rw [fil, List.length_set]
  exact fil_len ws y x k
structure PutI (a : Wc) (S : Ww) (kd : Int) (rl : List Nat) (Y G : List Int) (ws : List Int) : Prop where
  k : KInv a { S.s with y := S.s.y + 1 + rl.length, ws := ws } (Y ++ [(S.s.y : Int)]) G
  l : ws.length = a.N + a.O
  p : ld a.N (S.s.y + 1 + rl.length) S.s.g ws S.s.y = hw kd rl.length
  h : ∀ v, (v ∈ Y \/ v ∈ G) -> ld a.N (S.s.y + 1 + rl.length) S.s.g ws v = ld a.N S.s.y S.s.g S.s.ws v
theorem putI {a : Wc} {S : Ww} {Y G : List Int} {kd : Int} {rl : List Nat} (h : KInv a S.s Y G) (hb : Wbd a S.s) (hk : hc kd rl.length = 0) (hr : S.s.y + 1 + rl.length <= a.N) : ∀ j, j <= rl.length -> PutI a S kd rl Y G (putF S.s.rs S.s.y (mkW a.N S.s.y kd rl.length S.s.ws) rl j)
 | 0, _ => by
  have hm : mkB a.N S.s.y kd rl.length = true := by
   unfold mkB
   rw [hk]
   simp
   omega
  have eY : mkY a.N S.s.y kd rl.length = S.s.y + 1 + rl.length := by unfold mkY; rw [if_pos hm]; omega
  have eW : mkW a.N S.s.y kd rl.length S.s.ws = fil S.s.ws S.s.y (hw kd rl.length) rl.length := by unfold mkW; rw [if_pos hm]; rfl
  have hlw := hb.l1
  have hlt : S.s.y + rl.length < S.s.ws.length := by omega
  have hyN := hb.y1
  have m1 := h.inv.make (O := a.O) hb.l1 hm
  have m2 := CdI.make h.inv h.cd hb.l1 hm
  rw [eY] at m1 m2
  have ll : (mkW a.N S.s.y kd rl.length S.s.ws).length = a.N + a.O := by
   rw [eW, fil_len]
   exact hlw
  refine ⟨⟨m1, m2⟩, ll, ?_, fun v hv => ?_⟩
  ·show ld a.N (S.s.y + 1 + rl.length) S.s.g (mkW a.N S.s.y kd rl.length S.s.ws) S.s.y = _
   rw [eW, ld_in (iB_y (by omega) (by omega)), fil_get _ _ _ _ _ hlt, if_pos (by omega)]
  ·show ld a.N (S.s.y + 1 + rl.length) S.s.g (mkW a.N S.s.y kd rl.length S.s.ws) v = _
   rw [eW]
   rcases hv with d | d
   ·have hi := h.inv.full.iy v d
    rw [ld_in (iB_y hi.1 (by omega)), ld_in (iB_y hi.1 hi.2), fil_get _ _ _ _ _ hlt, if_neg (by omega), if_neg (by omega)]
   ·have hi := h.inv.full.io v d
    rw [ld_in (iB_o hi.1 hi.2), ld_in (iB_o hi.1 hi.2), fil_get _ _ _ _ _ hlt, if_neg (by omega), if_neg (by omega)]
 | j + 1, hj => by
  have ih := putI h hb hk hr j (by omega)
  have hlw := hb.l1
  have hyN := hb.y1
  have e : putF S.s.rs S.s.y (mkW a.N S.s.y kd rl.length S.s.ws) rl (j + 1) = (putF S.s.rs S.s.y (mkW a.N S.s.y kd rl.length S.s.ws) rl j).set (S.s.y + 1 + j) (S.s.rs.getD (rl.getD j 0) 0) := rfl
  rw [e]
  generalize putF S.s.rs S.s.y (mkW a.N S.s.y kd rl.length S.s.ws) rl j = ws at ih ⊢
  have hb2 : Wbd a { S.s with y := S.s.y + 1 + rl.length, ws := ws } := ⟨hb.n0, hb.n1, hb.o1, hr, hb.g1, ih.l, hb.r1⟩
  have hmem : (S.s.y : Int) ∈ Y ++ [(S.s.y : Int)] := by simp
  have hpf : ((j : Nat) : Int) < pf (ld a.N (S.s.y + 1 + rl.length) S.s.g ws S.s.y) := by
   rw [ih.p, (parts_head kd rl.length hk).2.1]
   omega
  have st := ih.k.store hb2 (v := S.s.y) (i := j) (z := S.s.rs.getD (rl.getD j 0) 0) hmem (by omega) hpf (fun ha => by
   exact (h.any _ ha).imp (fun c => List.mem_append_left _ c) id)
  have et : ((S.s.y : Int) + 1 + (j : Nat)).toNat = S.s.y + 1 + j := by omega
  dsimp only at st
  rw [et] at st
  have hs := (ih.k.inv.full.set (z := S.s.rs.getD (rl.getD j 0) 0) ih.l hb2.y1 hb2.g1 (Or.inl hmem) (Int.natCast_nonneg j) hpf).2
  dsimp only at hs
  rw [et] at hs
  refine ⟨st, by rw [List.length_set]; exact ih.l, (hs _ (Or.inl hmem)).trans ih.p, fun v hv => (hs v (hv.imp (fun c => List.mem_append_left _ c) id)).trans (ih.h v hv)⟩
end Go.Proofs.YtalgochmjddodaaGreat

namespace Go.Proofs.YtalgochmjddodaaGreat
set_option maxRecDepth 100000
set_option maxHeartbeats 1000000
open Go.RowKit W Kp Stl
theorem concat' (w : World) (B n1 n2 : Nat) (l1 l2 : List En) (z1 z2 : Addr) (c1 c2 : Nat) (e1 : l1.length = n1) (e2 : l2.length = n2) (x0 : w.cell? ⟨B, 0, none⟩ = some (.slice (some z1) n1 c1)) (x1 : w.cell? ⟨B, 1, none⟩ = some (.slice (some z2) n2 c2)) (h1 : Lp w (some z1) l1) (h2 : Lp w (some z2) l2) (hm : n1 + n2 <= 100000) :
  Calls Tryz.prog 241 #[.slice (some ⟨B, 0, none⟩) 2 2] w fun e w' => ∃ a c m, e = .returned (.slice a m c) /\ Hid (m = n1 + n2) /\ Hid (w'.ownsRow w.heap.size 101 2 (.slice a m c) m (ev (l1 ++ l2))) /\ Below w.heap.size w w' := by
 subst e1
 subst e2
 refine (concat_any w B l1 l2 z1 z2 c1 c2 x0 x1 h1 h2 hm).mono ?_
 rintro e w' ⟨a, c, rfl, h3, h4⟩
 exact ⟨a, c, _, rfl, rfl, h3, h4⟩
theorem Lp.take {w : World} {ad : Option Addr} {q : List En} (h : Lp w ad q) (i : Nat) : Lp w ad (q.take i) := by
 intro hp
 simp only [List.length_take] at hp
 obtain ⟨b, o, e, hb, hc⟩ := h (by omega)
 refine ⟨b, o, e, hb, fun j hj => ?_⟩
 simp only [List.length_take] at hj
 have e2 : (q.take i).getD j (0, 0) = q.getD j (0, 0) := by rw [List.getD_eq_getElem?_getD, List.getD_eq_getElem?_getD, List.getElem?_take_of_lt (by omega)]
 rw [e2]
 exact hc j (by omega)
theorem Lp.drop {w : World} {b o : Nat} {q : List En} (h : Lp w (some ⟨b, o, none⟩) q) (i : Nat) : Lp w (some ⟨b, o + i * 2, none⟩) (q.drop i) := by
 intro hp
 simp only [List.length_drop] at hp
 obtain ⟨b', o', e, hb, hc⟩ := h (by omega)
 cases e
 refine ⟨b, o + i * 2, rfl, hb, fun j hj => ?_⟩
 simp only [List.length_drop] at hj
 have e2 : (q.drop i).getD j (0, 0) = q.getD (i + j) (0, 0) := by simp [List.getElem?_drop]
 have hx := hc (i + j) (by omega)
 rw [e2, show o + i * 2 + j * 2 = o + (i + j) * 2 by omega]
 exact hx
theorem ent_pop1 : Ent 240 := ent_of Tryz.func240 (by kernel_rfl) rfl
theorem pop1_any (w : World) (B : Nat) (g : Int) (e : En) (h : w.cell? ⟨B, 0, none⟩ = some (.int .i64 g)) :
  Calls Tryz.prog 240 #[en e, .pointer (some ⟨B, 0, none⟩)] w fun r w' => r = .returned (.bool (e.1 == g)) /\ Below w.heap.size w w' := by
 obtain ⟨x, y⟩ := e
 have hlt := World.block_lt_of_cell? w _ h
 have hb1 := (Below.refl w.heap.size w).alloc (Nat.le_refl _) (.cells #[.int .i64 x, .int .i64 y] 101)
 by_cases hx : x = g
 ·subst hx
  go_enter Tryz.func240, Tryz.ntmps240
  go_wp2_with fail
  go_ret
  exact ⟨by simp, hb1⟩
 ·go_enter Tryz.func240, Tryz.ntmps240
  go_wp2_with fail
  go_ret
  exact ⟨by simp, hb1⟩
theorem pop_end {w w1 w5 : World} {p b0 : Nat} {a0 a5 : Option Addr} {k0 k1 c5 i n : Nat} {r q : List En} (h : Sds w p a0 k0 (some ⟨b0, 0, none⟩) k1 r q) (hb2 : Below w.heap.size w w1) (hb5 : Below w1.heap.size w1 w5) (hown : w5.ownsRow w1.heap.size 101 2 (.slice a5 n c5) n (ev (q.take i ++ q.drop (i + 1)))) (hi : i < q.length) (hn : n + 1 = q.length) :
  Sds (w5.setCell ⟨p, 1, none⟩ (.slice a5 n c5)) p a0 k0 a5 c5 r (q.take i ++ q.drop (i + 1)) /\ (∀ z, a5 = some z -> w.heap.size <= z.block) /\ Fr (fun k => k = p) w (w5.setCell ⟨p, 1, none⟩ (.slice a5 n c5)) := by
 have hbw : Below w.heap.size w w5 := hb2.trans (hb5.mono hb2.size)
 have hS := h.below hbw
 have hl : (q.take i ++ q.drop (i + 1)).length = n := by rw [List.length_append, List.length_take, List.length_drop]; omega
 have kk : ∀ k, k ≠ p -> (w5.setCell ⟨p, 1, none⟩ (.slice a5 n c5)).heap[k]? = w5.heap[k]? := fun k hk => Below.heap_setCell _ _ _ _ hk
 refine ⟨⟨by rw [hl]; exact set_snd hS.blk, row_keep hS.r0 (fun k e => kk k (hS.np hS.r0 k e)), ?_⟩, fun z e => ?_, (Fr.of hbw).set p 1 _ rfl⟩
 ·rw [hl]
  exact row_base (row_keep hown (fun k e => kk k (hS.np hown k e))) (fun _ _ => Nat.zero_le _)
 ·have := (row_lt hown z.block (by rw [e]; rfl)).1
  have := hb2.size
  omega
theorem pop_any (w : World) (p : Nat) (a0 a1 : Option Addr) (k0 k1 : Nat) (r q : List En) (g : Int) (h : Sds w p a0 k0 a1 k1 r q) (h1 : q.length <= 90000) :
  Calls Tryz.prog 222 #[.pointer (some ⟨p, 0, none⟩), .int .i64 g] w fun e w' =>
   (e = .returned (.tuple #[.int .i64 0, .bool false]) /\ (∀ e ∈ q, ¬ e.1 = g) /\ Below w.heap.size w w') \/
   (∃ (i : Nat) (b1 : Option Addr) (c1 : Nat), e = .returned (.tuple #[.int .i64 (q.getD i (0, 0)).2, .bool true]) /\ i < q.length /\ (q.getD i (0, 0)).1 = g /\ (∀ e ∈ q.take i, ¬ e.1 = g) /\ Sds w' p a0 k0 b1 c1 r (q.take i ++ q.drop (i + 1)) /\ (∀ z, b1 = some z -> w.heap.size <= z.block) /\ Fr (fun k => k = p) w w') := by
 obtain ⟨c0, c1, f0, f1, lp⟩ := h.cells
 have H : Hid (Sds w p a0 k0 a1 k1 r q) := h
 have hb1 := (Below.refl w.heap.size w).alloc (Nat.le_refl _) (.cells #[.int .i64 g] 2)
 have y1 := (hb1.cell (p := ⟨p, 1, none⟩) lp).trans c1
 have P := index_any (fun _ => True) 240 #[] #[.pointer (some ⟨w.heap.size, 0, none⟩)] (fun e => e.1 == g) ent_pop1 (w.alloc (.cells #[.int .i64 g] 2)) (fun w' e _ hs hk => pop1_any w' w.heap.size g e ((World.cell?_of_block (a := ⟨w.heap.size, 0, none⟩) (hk _ (by simp))).trans (by simp))) q a1 k1 (fun _ _ => trivial) (by omega) ((row_pairs h.q0).below hb1)
 clear h c0 f0
 go_enter Tryz.func222, Tryz.ntmps222
 go_wp2_with fail
 refine P.mono ?_
 clear P
 rintro e w1 ⟨hb, ⟨rfl, hn⟩ | ⟨i, rfl, hi, ht, hn⟩⟩
 ·have HN : Hid (∀ e ∈ q, ¬ e.1 = g) := fun e he => by simpa using hn e he
  have hb2 := hb1.trans (hb.mono (by simp))
  clear hb hn
  go_wp2_with fail
  go_ret2
  exact Or.inl ⟨rfl, HN.out, hb2⟩
 ·have HN : Hid (∀ e ∈ q.take i, ¬ e.1 = g) := fun e he => by simpa using hn e he
  have HT : Hid ((q.getD i (0, 0)).1 = g) := by show _ = _; simpa using ht
  obtain ⟨z, Hz⟩ : ∃ z, Hid (z = (q.getD i (0, 0)).2) := ⟨_, rfl⟩
  have hb2 := hb1.trans (hb.mono (by simp))
  have hsz := hb2.size
  have hS := H.out.below hb2
  obtain ⟨d0, d1, e0, e1, lp1⟩ := hS.cells
  have hLi := row_li hS.q0
  obtain ⟨b0, cap, hshape⟩ := row_shape hS.q0 (by omega)
  simp at hshape
  obtain ⟨rfl, rfl⟩ := hshape
  have hle := hLi.le
  have hmx : k1 <= maxLen := by
   rcases hS.q0.2 with ⟨_, h0⟩ | ⟨g, cap', cur, hv, _, _, _, hc, _⟩
   ·omega
   ·simp at hv; omega
  unfold maxLen at hmx
  obtain ⟨b0', o0', e0', hb0, hc⟩ := hLi.lp (by omega)
  cases e0'
  have x2 := (hc i hi).2
  rw [Nat.zero_add, <- Hz.out] at x2
  have i0 : (0 : Int) <= (i : Int) := by omega
  have i1 : (i : Int) < (q.length : Int) := by omega
  have HS : Hid (Sds w1 p a0 k0 (some ⟨b0, 0, none⟩) k1 r q) := hS
  clear hb hn hb1 hc hS ht
  have HP : Hid (Lp w1 (some ⟨b0, 0, none⟩) q) := hLi.lp
  have ht1 : Hid ((q.take i).length = i) := by show _ = _; rw [List.length_take]; omega
  have i2 : (i : Int) <= (k1 : Int) := by omega
  have i3 : IntKind.i64.wrap ((i : Int) + 1) = (i : Int) + 1 := by rw [IntKind.wrap_i64]; omega
  have i4 : (0 : Int) <= (i : Int) + 1 := by omega
  have i5 : (i : Int) + 1 <= (q.length : Int) := by omega
  have i6 : ((i : Int) + 1).toNat = i + 1 := by omega
  have i7 : (i : Int).toNat = i := by omega
  by_cases hk : i + 1 = k1
  ·subst hk
   have hz : q.length - (i + 1) = 0 := by omega
   have hbd := ((Below.refl w1.heap.size w1).alloc (Nat.le_refl _) (.cells #[.slice (some ⟨b0, 0, none⟩) i (i + 1), .slice (some ⟨b0, 0, none⟩) 0 0] 70)).drew
   have ht2 : Hid ((q.drop (i + 1)).length = 0) := by show _ = _; rw [List.length_drop]; omega
   have hL2 : Lp (w1.alloc (.cells #[.slice (some ⟨b0, 0, none⟩) i (i + 1), .slice (some ⟨b0, 0, none⟩) 0 0] 70)).drew (some ⟨b0, 0, none⟩) (q.drop (i + 1)) := fun h => by rw [List.length_drop] at h; omega
   go_wp2_with fail
   go_region_with (go_at_call 241; refine (concat' _ w1.heap.size i (0) (q.take i) (q.drop (i + 1)) ⟨b0, 0, none⟩ ⟨b0, 0, none⟩ (i + 1) (0) ht1.out ht2.out (by simp) (by simp) ((HP.out.take i).below hbd) (hL2) (by omega)).mono ?_; rintro e w5 ⟨a5, c5, m5, rfl, hm5, hown, hb5⟩; have e4 := (hb5.cell (p := ⟨p, 1, none⟩) (by simp; omega)).trans ((hbd.cell (p := ⟨p, 1, none⟩) lp1).trans d1); have e5 := (hb5.frozen (p := ⟨p, 1, none⟩) (by simp; omega)).trans ((hbd.frozen (p := ⟨p, 1, none⟩) lp1).trans e1))
   all_goals
    go_wp2_with fail
    go_ret2
    refine Or.inr ⟨i, a5, c5, by rw [<- Hz.out]; rfl, hi, HT.out, HN.out, ?_⟩
    have hb5' : Below w1.heap.size w1 w5 := hbd.trans (hb5.mono (by simp))
    exact pop_end H.out hb2 hb5' (row_base hown.out (fun k e => by have := (row_lt hown.out k e).1; simp at this; omega)) hi (by have := hm5.out; omega)
  ·have hk2 : ¬ k1 = i + 1 := fun e => hk e.symm
   have hbd := ((Below.refl w1.heap.size w1).alloc (Nat.le_refl _) (.cells #[.slice (some ⟨b0, 0, none⟩) i k1, .slice (some ⟨b0, (i + 1) * 2, none⟩) (q.length - (i + 1)) (k1 - (i + 1))] 70)).drew
   have ht2 : Hid ((q.drop (i + 1)).length = q.length - (i + 1)) := List.length_drop
   have hL0 := (HP.out.drop (i + 1)).below hbd
   rw [Nat.zero_add] at hL0
   have HL2 : Hid (Lp (w1.alloc (.cells #[.slice (some ⟨b0, 0, none⟩) i k1, .slice (some ⟨b0, (i + 1) * 2, none⟩) (q.length - (i + 1)) (k1 - (i + 1))] 70)).drew (some ⟨b0, (i + 1) * 2, none⟩) (q.drop (i + 1))) := hL0
   clear hL0
   go_wp2_with fail
   go_region_with (go_at_call 241; refine (concat' _ w1.heap.size i (q.length - (i + 1)) (q.take i) (q.drop (i + 1)) ⟨b0, 0, none⟩ ⟨b0, (i + 1) * 2, none⟩ k1 (k1 - (i + 1)) ht1.out ht2.out (by simp) (by simp) ((HP.out.take i).below hbd) (HL2.out) (by omega)).mono ?_; rintro e w5 ⟨a5, c5, m5, rfl, hm5, hown, hb5⟩; have e4 := (hb5.cell (p := ⟨p, 1, none⟩) (by simp; omega)).trans ((hbd.cell (p := ⟨p, 1, none⟩) lp1).trans d1); have e5 := (hb5.frozen (p := ⟨p, 1, none⟩) (by simp; omega)).trans ((hbd.frozen (p := ⟨p, 1, none⟩) lp1).trans e1))
   all_goals
    go_wp2_with fail
    go_ret2
    refine Or.inr ⟨i, a5, c5, by rw [<- Hz.out]; rfl, hi, HT.out, HN.out, ?_⟩
    have hb5' : Below w1.heap.size w1 w5 := hbd.trans (hb5.mono (by simp))
    exact pop_end H.out hb2 hb5' (row_base hown.out (fun k e => by have := (row_lt hown.out k e).1; simp at this; omega)) hi (by have := hm5.out; omega)
end Go.Proofs.YtalgochmjddodaaGreat
