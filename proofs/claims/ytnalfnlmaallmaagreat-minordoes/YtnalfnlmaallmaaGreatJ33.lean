/- Joined: Mn23, Mn24, Mn25, Mn26, Mn27, Mn28, Mn29, Mk4, Mk5, Mn30, Mn31, Mn32. -/
import Derived.Test.YtnalfnlmaallmaaGreatJ32
import Derived.Test.YtnalfnlmaallmaaGreatJ19
import Derived.Test.YtnalfnlmaallmaaGreatJ28
import Derived.Test.YtnalfnlmaallmaaGreatJ26
namespace Go.Proofs.YtnalfnlmaallmaaGreat
open Go.RowKit W Kp Stl
structure WE (k : Ck) (z : C0) (s : Cs) (H : List Int) : Prop where
  wk : ∀ a ∈ s.wk, a ∈ z.G ++ H /\ pk (k.ld s a) = 3
  ep : ∀ a ∈ s.ep, a ∈ z.G ++ H /\ pk (k.ld s a) = 4
section
variable {k : Ck} {z : C0} {s t : Cs} {H K D : List Int}
theorem Pg.hd (p : Pg k s t) (h : MI k z s H) (ht : MI k z t K) {b : Int} (hb : b ∈ z.G ++ H) : k.ld t b = k.ld s b := by
 obtain ⟨a, o⟩ := h.from hb
 exact (ht.hd a b (p.or o)).trans (h.hd a b o).symm
theorem mem_more {G H K : List Int} {x : Int} (h : ∃ H2, K = H ++ H2) (hx : x ∈ G ++ H) : x ∈ G ++ K := by
 obtain ⟨H2, e⟩ := h
 rw [e, <- List.append_assoc]
 exact List.mem_append_left _ hx
theorem WE.go (w : WE k z s H) (h : MI k z s H) (ht : MI k z t K) (p : Pg k s t) (hK : ∃ H2, K = H ++ H2) (e1 : t.wk = s.wk) (e2 : t.ep = s.ep) : WE k z t K :=
 ⟨fun a ha => by
  rw [e1] at ha
  obtain ⟨m1, m2⟩ := w.wk a ha
  exact ⟨mem_more hK m1, by rw [p.hd h ht m1]; exact m2⟩, fun a ha => by
  rw [e2] at ha
  obtain ⟨m1, m2⟩ := w.ep a ha
  exact ⟨mem_more hK m1, by rw [p.hd h ht m1]; exact m2⟩⟩
theorem lk_we (k : Ck) (s : Cs) (b : Int) : ((k.lk s b).wk = s.wk \/ (pk (k.ld s b) = 3 /\ (k.lk s b).wk = s.wk ++ [b])) /\ ((k.lk s b).ep = s.ep \/ (pk (k.ld s b) = 4 /\ (k.lk s b).ep = s.ep ++ [b])) := by
 unfold Ck.lk
 split
 ·exact ⟨Or.inl (kfs_wk _ _ _ _).1, Or.inl (kfs_wk _ _ _ _).2.1⟩
 ·split
  ·rename_i e
   exact ⟨Or.inr ⟨e, (kf_wk _ _ _).1⟩, Or.inl (kf_wk _ _ _).2.1⟩
  ·split
   ·rename_i e
    exact ⟨Or.inl rfl, Or.inr ⟨e, rfl⟩⟩
   ·exact ⟨Or.inl rfl, Or.inl rfl⟩
theorem WE.lk (w : WE k z s H) (h : MI k z s H) {b : Int} (hb : b ∈ z.G ++ H) (ht : MI k z (k.lk s b) K) (p : Pg k s (k.lk s b)) (hK : ∃ H2, K = H ++ H2) : WE k z (k.lk s b) K := by
 obtain ⟨c1, c2⟩ := lk_we k s b
 refine ⟨fun a ha => ?_, fun a ha => ?_⟩
 ·rcases c1 with e | ⟨e3, e⟩
  ·rw [e] at ha
   obtain ⟨m1, m2⟩ := w.wk a ha
   exact ⟨mem_more hK m1, by rw [p.hd h ht m1]; exact m2⟩
  ·rw [e] at ha
   rcases List.mem_append.1 ha with d | d
   ·obtain ⟨m1, m2⟩ := w.wk a d
    exact ⟨mem_more hK m1, by rw [p.hd h ht m1]; exact m2⟩
   ·rw [List.mem_singleton] at d
    subst d
    exact ⟨mem_more hK hb, by rw [p.hd h ht hb]; exact e3⟩
 ·rcases c2 with e | ⟨e3, e⟩
  ·rw [e] at ha
   obtain ⟨m1, m2⟩ := w.ep a ha
   exact ⟨mem_more hK m1, by rw [p.hd h ht m1]; exact m2⟩
  ·rw [e] at ha
   rcases List.mem_append.1 ha with d | d
   ·obtain ⟨m1, m2⟩ := w.ep a d
    exact ⟨mem_more hK m1, by rw [p.hd h ht m1]; exact m2⟩
   ·rw [List.mem_singleton] at d
    subst d
    exact ⟨mem_more hK hb, by rw [p.hd h ht hb]; exact e3⟩
theorem LI.kf2 (h : LI k z s H D) {b : Int} (hb : b ∈ z.G ++ H) (h4 : pk (k.ld s b) = 4) : ∃ H', LI k z (k.kf (k.kf s (b + 1)) (b + 2)) H' D /\ Pg k s (k.kf (k.kf s (b + 1)) (b + 2)) /\ (∃ H2, H' = H ++ H2) /\ k.yg (k.ld (k.kf (k.kf s (b + 1)) (b + 2)) (b + 1)) = false /\ k.yg (k.ld (k.kf (k.kf s (b + 1)) (b + 2)) (b + 2)) = false := by
 obtain ⟨a, o⟩ := h.mi.from hb
 have hbd := h.mi.bd hb
 have f2 := pf_two hbd.2.2 (Or.inr (Or.inr h4))
 have e0 := h.mi.hd a b o
 obtain ⟨H1, m1, m2, m3, ⟨H2, m4⟩⟩ := h.kf (i := 0) o (by omega) (by rw [<- e0]; omega)
 obtain ⟨H3, j1, j2, j3, ⟨H4, j4⟩⟩ := m1.kf (i := 1) (m2.or o) (by omega) (by rw [<- e0]; omega)
 have x1 : b + 1 + 0 = b + 1 := by omega
 have x2 : b + 1 + 1 = b + 2 := by omega
 rw [x1] at m1 m2 m3 j1 j2 j3
 rw [x2] at j1 j2 j3
 exact ⟨H3, j1, m2.trans j2, ⟨H2 ++ H4, by rw [j4, m4, List.append_assoc]⟩, j2.cl _ (by omega) (by have := m2.g; omega) m3, j3⟩
theorem LI.kvf : ∀ (l left : List Int) {s : Cs} {H : List Int}, LI k z s H D -> (∀ a ∈ l, a ∈ z.G ++ H /\ pk (k.ld s a) = 4) -> ∃ H', LI k z (l.foldl k.kv1 (left, s)).2 H' D /\ Pg k s (l.foldl k.kv1 (left, s)).2 /\ (∃ H2, H' = H ++ H2) /\ (l.foldl k.kv1 (left, s)).2.wk = s.wk /\ (l.foldl k.kv1 (left, s)).2.ep = s.ep /\ (∀ a ∈ l, a ∈ (l.foldl k.kv1 (left, s)).1 \/ (k.yg (k.ld (l.foldl k.kv1 (left, s)).2 (a + 1)) = false /\ k.yg (k.ld (l.foldl k.kv1 (left, s)).2 (a + 2)) = false)) /\ (∀ a ∈ left, a ∈ (l.foldl k.kv1 (left, s)).1) /\ ∀ a ∈ (l.foldl k.kv1 (left, s)).1, a ∈ left \/ a ∈ l
 | [], left, s, H, h, _ => ⟨H, h, Pg.refl _ _, ⟨[], by simp⟩, rfl, rfl, fun a ha => (by cases ha), fun _ d => d, fun _ d => Or.inl d⟩
 | b :: l, left, s, H, h, hl => by
  rw [List.foldl_cons]
  cases hls : k.ls s (k.ld s (b + 1))
  ·have e1 : k.kv1 (left, s) b = (left, k.kf (k.kf s (b + 1)) (b + 2)) := by
    unfold Ck.kv1
    rw [if_neg (by rw [hls]; simp)]
   rw [e1]
   obtain ⟨hb1, hb2⟩ := hl b (by simp)
   obtain ⟨H1, m1, m2, m3, m4, m5⟩ := h.kf2 hb1 hb2
   obtain ⟨H3, j1, j2, j3, j4, j5, j6, j7, j8⟩ := LI.kvf l left m1 (fun a ha => by
    obtain ⟨n1, n2⟩ := hl a (List.mem_cons_of_mem _ ha)
    exact ⟨mem_more m3 n1, by rw [m2.hd h.mi m1.mi n1]; exact n2⟩)
   obtain ⟨w1, w2, _⟩ := kf_wk k s (b + 1)
   obtain ⟨w3, w4, _⟩ := kf_wk k (k.kf s (b + 1)) (b + 2)
   have hbd := h.mi.bd hb1
   have f2 := pf_two hbd.2.2 (Or.inr (Or.inr hb2))
   have hg := m2.g
   refine ⟨H3, j1, m2.trans j2, ?_, j4.trans (w3.trans w1), j5.trans (w4.trans w2), fun a ha => ?_, j7, fun a ha => (j8 a ha).imp id (List.mem_cons_of_mem _)⟩
   ·obtain ⟨A1, x1⟩ := m3
    obtain ⟨A2, x2⟩ := j3
    exact ⟨A1 ++ A2, by rw [x2, x1, List.append_assoc]⟩
   ·rcases List.mem_cons.1 ha with d | d
    ·subst d
     exact Or.inr ⟨j2.cl _ (by omega) (by omega) m4, j2.cl _ (by omega) (by omega) m5⟩
    ·exact j6 a d
  ·have e1 : k.kv1 (left, s) b = (left ++ [b], s) := by
    unfold Ck.kv1
    rw [if_pos hls]
   rw [e1]
   obtain ⟨H3, j1, j2, j3, j4, j5, j6, j7, j8⟩ := LI.kvf l (left ++ [b]) h (fun a ha => hl a (List.mem_cons_of_mem _ ha))
   refine ⟨H3, j1, j2, j3, j4, j5, fun a ha => ?_, fun a d => j7 a (List.mem_append_left _ d), fun a ha => ?_⟩
   ·rcases List.mem_cons.1 ha with d | d
    ·exact Or.inl (j7 a (by rw [d]; simp))
    ·exact j6 a d
   ·rcases j8 a ha with d | d
    ·rcases List.mem_append.1 d with d | d
     ·exact Or.inl d
     ·rw [List.mem_singleton] at d
      exact Or.inr (by rw [d]; simp)
    ·exact Or.inr (List.mem_cons_of_mem _ d)
end
end Go.Proofs.YtnalfnlmaallmaaGreat

namespace Go.Proofs.YtnalfnlmaallmaaGreat
open Go.RowKit W Kp Stl
section
variable {k : Ck} {z : C0} {s t : Cs} {H K D : List Int}
theorem WE.lb1 (w : WE k z s H) (h : LI k z s H D) (hn : hB k.N s.g s.nx = true) (ht : MI k z { k.lk s s.nx with nx := s.nx + (1 + pf (k.ld s s.nx)) } K) (p : Pg k s { k.lk s s.nx with nx := s.nx + (1 + pf (k.ld s s.nx)) }) (hK : ∃ H2, K = H ++ H2) : WE k z { k.lk s s.nx with nx := s.nx + (1 + pf (k.ld s s.nx)) } K := by
 have hb := hB_yes hn
 have hnx : s.nx ∈ H := h.bo.resolve_right (by omega)
 obtain ⟨x1, _⟩ := lk_nx k s s.nx
 have m : MI k z (k.lk s s.nx) K := ht.turn (k.lk s s.nx).wk (k.lk s s.nx).ep (k.lk s s.nx).rs (k.lk s s.nx).nx ht.ci.wk0 ht.ci.ep0 (by rw [x1]; exact h.mi.ci.nx0) (by rw [x1]; exact h.mi.ci.nx1)
 have w2 := w.lk h.mi (List.mem_append_right z.G hnx) m ⟨p.f, p.g, p.cl⟩ hK
 exact ⟨w2.wk, w2.ep⟩
theorem LI.lbw : ∀ (n : Nat) {s : Cs} {H : List Int}, LI k z s H D -> WE k z s H -> ∃ H', LI k z (k.lb n s) H' D /\ WE k z (k.lb n s) H' /\ Pg k s (k.lb n s) /\ (∃ H2, H' = H ++ H2) /\ (((k.N : Int) + k.O - s.nx).toNat < n -> hB k.N (k.lb n s).g (k.lb n s).nx = false)
 | 0, s, H, h, w => ⟨H, h, w, Pg.refl _ _, ⟨[], by simp⟩, fun e => absurd e (by omega)⟩
 | n + 1, s, H, h, w => by
  unfold Ck.lb
  cases hn : hB k.N s.g s.nx
  ·rw [if_neg (by simp)]
   exact ⟨H, h, w, Pg.refl _ _, ⟨[], by simp⟩, fun _ => hn⟩
  ·rw [if_pos rfl]
   obtain ⟨H1, m1, m2, m3⟩ := h.lb1 hn
   have w1 := w.lb1 h hn m1.mi m2 m3
   obtain ⟨H2, m3⟩ := m3
   obtain ⟨H3, j1, jw, j2, ⟨H4, j3⟩, j4⟩ := LI.lbw n m1 w1
   refine ⟨H3, j1, jw, m2.trans j2, ⟨H2 ++ H4, by rw [j3, m3, List.append_assoc]⟩, fun e => j4 ?_⟩
   have hpf := pf_bd (k.ld s s.nx)
   have hb := hB_yes hn
   have hg := h.mi.ci.hg
   dsimp only
   omega
theorem Lo.ep {b : Int} (l : Lo k t b) (e : List Int) (hc : b ∈ t.ep -> b ∈ e \/ (k.yg (k.ld t (b + 1)) = false /\ k.yg (k.ld t (b + 2)) = false)) (h2 : pk (k.ld t b) = 4 -> pf (k.ld t b) = 2) : Lo k { t with ep := e } b := by
 intro i i0 i1
 have i2 : i < pf (k.ld t b) := i1
 rcases l i i0 i2 with d | d | ⟨d1, d2⟩
 ·exact Or.inl d
 ·exact Or.inr (Or.inl d)
 ·rcases hc d2 with c | ⟨c1, c2⟩
  ·exact Or.inr (Or.inr ⟨d1, c⟩)
  ·have f2 := h2 d1
   left
   show k.yg (k.ld t (b + 1 + i)) = false
   rcases (by omega : i = 0 \/ i = 1) with e | e
   ·rw [e, show b + 1 + 0 = b + 1 by omega]
    exact c1
   ·rw [e, show b + 1 + 1 = b + 2 by omega]
    exact c2
theorem LI.kv (h : LI k z s H D) (w : WE k z s H) : ∃ H', LI k z (k.kv s).2 H' D /\ WE k z (k.kv s).2 H' /\ Pg k s (k.kv s).2 /\ ∃ H2, H' = H ++ H2 := by
 obtain ⟨H', j1, j2, j3, j4, j5, j6, _, j8⟩ := LI.kvf s.ep [] h w.ep
 unfold Ck.kv Ck.kvf
 dsimp only
 have sub : ∀ a ∈ (s.ep.foldl k.kv1 ([], s)).1, a ∈ s.ep := fun a ha => (j8 a ha).elim (fun d => by cases d) id
 have mt := j1.mi.turn (s.ep.foldl k.kv1 ([], s)).2.wk (s.ep.foldl k.kv1 ([], s)).1 (s.ep.foldl k.kv1 ([], s)).2.rs (s.ep.foldl k.kv1 ([], s)).2.nx j1.mi.ci.wk0 (fun a ha => h.mi.ci.ep0 a (sub a ha)) j1.mi.ci.nx0 j1.mi.ci.nx1
 have w2 := w.go h.mi j1.mi j2 j3 j4 j5
 have cl : ∀ b, b ∈ (s.ep.foldl k.kv1 ([], s)).2.ep -> b ∈ (s.ep.foldl k.kv1 ([], s)).1 \/ (k.yg (k.ld (s.ep.foldl k.kv1 ([], s)).2 (b + 1)) = false /\ k.yg (k.ld (s.ep.foldl k.kv1 ([], s)).2 (b + 2)) = false) := fun b hb => j6 b (by rw [<- j5]; exact hb)
 have two : ∀ b, b ∈ z.G ++ H' -> pk (k.ld (s.ep.foldl k.kv1 ([], s)).2 b) = 4 -> pf (k.ld (s.ep.foldl k.kv1 ([], s)).2 b) = 2 := fun b hb e => pf_two (j1.mi.bd hb).2.2 (Or.inr (Or.inr e))
 refine ⟨H', ⟨mt, j1.bo, fun b d lt => ?_, fun b d => ?_, j1.dg⟩, ⟨w2.wk, fun a ha => w2.ep a (by rw [j5]; exact sub a ha)⟩, ⟨j2.f, j2.g, j2.cl⟩, j3⟩
 ·exact (j1.lo b d lt).ep _ (cl b) (two b (List.mem_append_right _ d))
 ·exact (j1.ld b d).ep _ (cl b) (two b (List.mem_append_left _ (j1.dg b d)))
end
end Go.Proofs.YtnalfnlmaallmaaGreat

namespace Go.Proofs.YtnalfnlmaallmaaGreat
open Go.RowKit W Kp Stl
def Ru (k : Ck) (z : C0) (D : List Int) (s t : Cs) : Prop := ∀ H, LI k z s H D -> WE k z s H -> ∃ H', LI k z t H' D /\ WE k z t H' /\ Pg k s t /\ ∃ H2, H' = H ++ H2
section
variable {k : Ck} {z : C0} {s t u : Cs} {D : List Int}
theorem Ru.refl : Ru k z D s s := fun H h w => ⟨H, h, w, Pg.refl _ _, ⟨[], by simp⟩⟩
theorem Ru.trans (h : Ru k z D s t) (j : Ru k z D t u) : Ru k z D s u := fun H l w => by
 obtain ⟨H1, m1, m2, m3, ⟨A, m4⟩⟩ := h H l w
 obtain ⟨H3, j1, j2, j3, ⟨B, j4⟩⟩ := j H1 m1 m2
 exact ⟨H3, j1, j2, m3.trans j3, ⟨A ++ B, by rw [j4, m4, List.append_assoc]⟩⟩
theorem Ru.br (x : Int) : Ru k z D s (k.br s x).2 := fun _ h w => by
 obtain ⟨H', m1, m2, m3, _, _⟩ := h.br x
 obtain ⟨_, e1, e2, _⟩ := br_rs k s x
 exact ⟨H', m1, w.go h.mi m1.mi m2 m3 e1 e2, m2, m3⟩
theorem Ru.lb (n : Nat) : Ru k z D s (k.lb n s) := fun _ h w => by
 obtain ⟨H', m1, m2, m3, m4, _⟩ := LI.lbw n h w
 exact ⟨H', m1, m2, m3, m4⟩
theorem Ru.kv : Ru k z D s (k.kv s).2 := fun _ h w => h.kv w
theorem Ru.wkl : ∀ (l : List Nat) (t : (Cs × List En) × Bool), Ru k z D t.1.1 (l.foldl (wkP k.al k.br) t).1.1
 | [], t => Ru.refl
 | i :: l, t => by
  rw [List.foldl_cons]
  refine Ru.trans ?_ (Ru.wkl l _)
  unfold wkP
  split
  ·exact Ru.refl
  ·exact Ru.br _
theorem Ru.wa (t : Cs × List En) : Ru k z D t.1 (k.wa t).1.1 := Ru.wkl (List.range t.2.length) (t, false)
theorem Ru.spr : ∀ (n : Nat) (t : Cs × List En), Ru k z D t.1 (k.spr n t).1
 | 0, t => Ru.refl
 | n + 1, t => by
  have h1 : Ru k z D t.1 (k.kv (k.lb (k.O + 1) t.1)).2 := (Ru.lb (k.O + 1)).trans Ru.kv
  unfold Ck.spr
  split
  ·exact h1.trans (Ru.spr n ((k.kv (k.lb (k.O + 1) t.1)).2, t.2))
  ·split
   ·exact (h1.trans (Ru.wa ((k.kv (k.lb (k.O + 1) t.1)).2, t.2))).trans (Ru.spr n (k.wa ((k.kv (k.lb (k.O + 1) t.1)).2, t.2)).1)
   ·exact h1.trans (Ru.wa ((k.kv (k.lb (k.O + 1) t.1)).2, t.2))
theorem Ru.sp (t : Cs × List En) : Ru k z D t.1 (k.sp t).1 := Ru.spr _ t
theorem Ru.ke (t : Cs × List En) (x : Int) : Ru k z D t.1 (k.ke t x).2.1 := (Ru.br x).trans (Ru.sp ((k.br t.1 x).2, t.2))
theorem Ru.one (t : Cs × List En) (e : En) : Ru k z D t.1 (cm (noSd Cs) (fun s x => k.al s.1 x) k.ke t e).2.1 := by
 unfold cm
 split
 ·exact Ru.ke t e.2
 ·exact Ru.refl
theorem Ru.part (l : List En) (t : Cs × List En) : Ru k z D t.1 (pts (cm (noSd Cs) (fun s x => k.al s.1 x) k.ke) t l).2.2.1 := by
 have key : ∀ (l : List En) (p : List En × List En × (Cs × List En)), Ru k z D p.2.2.1 (l.foldl (pstep (cm (noSd Cs) (fun s x => k.al s.1 x) k.ke)) p).2.2.1 := by
  intro l
  induction l with
  | nil => exact fun p => Ru.refl
  | cons e l ih =>
   intro p
   rw [List.foldl_cons]
   refine Ru.trans ?_ (ih _)
   have h1 := Ru.one (k := k) (z := z) (D := D) p.2.2 e
   unfold pstep
   split
   ·exact h1
   ·exact h1
 exact key l ([], [], t)
theorem Ru.turn : ∀ (n : Nat) (t : Cs × List En) (d : List En), Ru k z D t.1 (trn (cm (noSd Cs) (fun s x => k.al s.1 x) k.ke) n t d).1.1
 | 0, t, d => Ru.refl
 | n + 1, t, d => by
  unfold trn
  split
  ·exact Ru.part d t
  ·exact (Ru.part d t).trans (Ru.turn n _ _)
theorem Ru.sS (t : Cs × List En) (r : List En) : Ru k z D t.1 (k.sS t r).1 := Ru.turn _ _ _
end
end Go.Proofs.YtnalfnlmaallmaaGreat

namespace Go.Proofs.YtnalfnlmaallmaaGreat
open Go.RowKit W Kp Stl
section
variable {k : Ck} {z : C0} {s t : Cs} {D : List Int}
theorem kvf_idle (k : Ck) : ∀ (l left : List Int) (s : Cs), (l.foldl k.kv1 (left, s)).1.length <= left.length + l.length /\ ((l.foldl k.kv1 (left, s)).1.length = left.length + l.length -> (l.foldl k.kv1 (left, s)).2 = s)
 | [], left, s => ⟨by simp, fun _ => rfl⟩
 | b :: l, left, s => by
  rw [List.foldl_cons]
  cases hls : k.ls s (k.ld s (b + 1))
  ·have e1 : k.kv1 (left, s) b = (left, k.kf (k.kf s (b + 1)) (b + 2)) := by
    unfold Ck.kv1
    rw [if_neg (by rw [hls]; simp)]
   rw [e1]
   have h1 := (kvf_idle k l left (k.kf (k.kf s (b + 1)) (b + 2))).1
   rw [List.length_cons]
   exact ⟨by omega, fun e => by omega⟩
  ·have e1 : k.kv1 (left, s) b = (left ++ [b], s) := by
    unfold Ck.kv1
    rw [if_pos hls]
   rw [e1]
   obtain ⟨h1, h2⟩ := kvf_idle k l (left ++ [b]) s
   rw [List.length_append, List.length_singleton] at h1 h2
   rw [List.length_cons]
   exact ⟨by omega, fun e => h2 (by omega)⟩
theorem kv_idle (k : Ck) (s : Cs) (h : (k.kv s).1 = false) : (k.kv s).2.g = s.g /\ (k.kv s).2.nx = s.nx := by
 unfold Ck.kv Ck.kvf at h ⊢
 dsimp only at h ⊢
 obtain ⟨h1, h2⟩ := kvf_idle k s.ep [] s
 have h3 := of_decide_eq_false h
 rw [List.length_nil, Nat.zero_add] at h1 h2
 rw [h2 (by omega)]
 exact ⟨rfl, rfl⟩
theorem wkl_idle (k : Ck) : ∀ (l : List Nat) (t : (Cs × List En) × Bool), (l.foldl (wkP k.al k.br) t).2 = false -> (l.foldl (wkP k.al k.br) t).1 = t.1 /\ t.2 = false
 | [], t, h => ⟨rfl, h⟩
 | i :: l, t, h => by
  rw [List.foldl_cons] at h ⊢
  obtain ⟨h1, h2⟩ := wkl_idle k l _ h
  unfold wkP at h1 h2 ⊢
  split at h2
  ·rename_i e
   rw [if_pos e] at h1 ⊢
   exact ⟨h1, h2⟩
  ·cases h2
theorem wa_idle (k : Ck) (t : Cs × List En) (h : (k.wa t).2 = false) : (k.wa t).1 = t := (wkl_idle k (List.range t.2.length) (t, false) h).1
theorem spr_end : ∀ (n : Nat) (t : Cs × List En) (H : List Int), LI k z t.1 H D -> WE k z t.1 H -> CB k t.1 -> k.mu t.1 < n -> hB k.N (k.spr n t).1.g (k.spr n t).1.nx = false
 | 0, t, H, _, _, _, e => absurd e (by omega)
 | n + 1, t, H, h, w, hb, e => by
  obtain ⟨H1, l1, w1, _, _, e1⟩ := LI.lbw (k.O + 1) h w
  have nx0 := h.mi.ci.nx0
  have hE := e1 (by omega)
  obtain ⟨c1, c2, c3⟩ := CI.lb h.mi.ci hb (k.O + 1)
  obtain ⟨d1, d2, d3, d4⟩ := CI.kv c1 c2
  obtain ⟨H2, l2, w2, _, _⟩ := l1.kv w1
  unfold Ck.spr
  cases hk : (k.kv (k.lb (k.O + 1) t.1)).1
  ·rw [if_neg (by simp)]
   obtain ⟨g1, g2⟩ := kv_idle k _ hk
   obtain ⟨f1, f2, f3, f4, f5⟩ := CI.wa (s := ((k.kv (k.lb (k.O + 1) t.1)).2, t.2)) d1 d2
   cases hw : (k.wa ((k.kv (k.lb (k.O + 1) t.1)).2, t.2)).2
   ·rw [if_neg (by simp), wa_idle k _ hw]
    dsimp only
    rw [g1, g2]
    exact hE
   ·rw [if_pos rfl]
    obtain ⟨H3, l3, w3, _, _⟩ := Ru.wa (k := k) (z := z) (D := D) ((k.kv (k.lb (k.O + 1) t.1)).2, t.2) H2 l2 w2
    have h5 := f5 hw
    dsimp only at h5
    exact spr_end n _ H3 l3 w3 f2 (by omega)
  ·rw [if_pos rfl]
   have h5 := d4 hk
   exact spr_end n ((k.kv (k.lb (k.O + 1) t.1)).2, t.2) H2 l2 w2 d2 (by dsimp only; omega)
end
end Go.Proofs.YtnalfnlmaallmaaGreat

namespace Go.Proofs.YtnalfnlmaallmaaGreat
open Go.RowKit W Kp Stl
section
variable {k : Ck} {z : C0} {s : Cs} {H D : List Int}
theorem LI.fields (h : LI k z s H D) (he : hB k.N s.g s.nx = false)
  (hz : ∀ v, (v ∈ k.T \/ v ∈ z.G) -> ∀ i, 0 <= i -> i < pf (k.l0 z v) -> aB (k.l0 z (v + 1 + i)) = true -> aV (k.l0 z (v + 1 + i)) ∈ k.T \/ aV (k.l0 z (v + 1 + i)) ∈ z.G)
  (hc : ∀ v ∈ z.G, v ∉ D -> ∀ i, 0 <= i -> i < pf (k.l0 z v) -> k.yg (k.l0 z (v + 1 + i)) = false)
  {b : Int} (hb : b ∈ z.G ++ H) {i : Int} (i0 : 0 <= i) (i1 : i < pf (k.ld s b)) (ha : aB (k.ld s (b + 1 + i)) = true) :
  aV (k.ld s (b + 1 + i)) ∈ z.G ++ H \/ (pk (k.ld s b) = 3 /\ i = 0 /\ b ∈ s.wk) \/ (pk (k.ld s b) = 4 /\ b ∈ s.ep) := by
 obtain ⟨a, o⟩ := h.mi.from hb
 have e0 := h.mi.hd a b o
 rw [e0] at i1
 have hm := h.mi.fd a b o i i0 i1
 have haT : a ∈ k.T \/ a ∈ z.G := by
  rcases o with ⟨e, d⟩ | ⟨d, _⟩
  ·exact Or.inr (by rw [e]; exact d)
  ·exact Or.inl d
 have hnx : s.nx = (k.N : Int) + s.g := by
  rcases h.bo with d | d
  ·have h1 := h.mi.bdH d
   unfold hB at he
   have := of_decide_eq_false he
   omega
  ·exact d
 -- not young now: it leads to an old thing
 have key : k.yg (k.ld s (b + 1 + i)) = false -> aV (k.ld s (b + 1 + i)) ∈ z.G ++ H := fun hy => by
  rcases hm with e | ⟨g1, g2, g3⟩
  ·rw [e] at ha hy ⊢
   rcases hz a haT i i0 i1 ha with d | d
   ·unfold Ck.yg at hy
    rw [ha] at hy
    simp at hy
    exact absurd d hy
   ·exact List.mem_append_left _ d
  ·have hT : aV (k.l0 z (a + 1 + i)) ∈ k.T := by
    unfold Ck.yg at g1
    rw [Bool.and_eq_true] at g1
    simpa using g1.2
   have hH := h.mi.fh _ hT g2
   have hbd := h.mi.bdH hH
   have hN := h.mi.ci.hN'
   have hO := h.mi.ci.hO
   have hg := h.mi.ci.hg
   obtain ⟨n, hn⟩ : ∃ n : Nat, s.f (aV (k.l0 z (a + 1 + i))) = n := ⟨(s.f (aV (k.l0 z (a + 1 + i)))).toNat, by omega⟩
   rw [g3, hn, (ew_at n (by omega)).2, <- hn]
   exact List.mem_append_right _ hH
 rcases List.mem_append.1 hb with d | d
 ·by_cases hD : b ∈ D
  ·rcases h.ld b hD i i0 (by rw [e0]; exact i1) with c | c | c
   ·exact Or.inl (key c)
   ·exact Or.inr (Or.inl c)
   ·exact Or.inr (Or.inr c)
  ·have ea : a = b := by
    rcases o with ⟨e, _⟩ | ⟨o1, o2, o3⟩
    ·exact e
    ·have h1 := h.mi.hlo b (by rw [<- o2]; exact h.mi.fh a o1 (by rw [o2]; exact o3))
     have h2 := h.mi.zh b d
     omega
   subst ea
   have hy := hc a d hD i i0 i1
   refine Or.inl (key ?_)
   rcases hm with e | ⟨g1, _⟩
   ·rw [e]; exact hy
   ·rw [hy] at g1
    cases g1
 ·rcases h.lo b d (by rw [hnx]; exact (h.mi.bdH d).2) i i0 (by rw [e0]; exact i1) with c | c | c
  ·exact Or.inl (key c)
  ·exact Or.inr (Or.inl c)
  ·exact Or.inr (Or.inr c)
end
end Go.Proofs.YtnalfnlmaallmaaGreat

namespace Go.Proofs.YtnalfnlmaallmaaGreat
open Go.RowKit W Kp Stl
def Gd (k : Ck) (G : List Int) (x : Int) : Prop := aB x = true -> k.yg x = false /\ aV x ∈ G
structure Fin1 (k : Ck) (G : List Int) (P : Int -> Int -> Prop) (s : Cs) : Prop where
  full : Full2 k.N k.y s.g s.ws k.T G
  len : s.ws.length = k.N + k.O
  hy : k.y <= k.N
  hg : s.g <= k.O
  fd : ∀ b ∈ G, ∀ i, 0 <= i -> i < pf (k.ld s b) -> Gd k G (k.ld s (b + 1 + i)) \/ P b i
  fy : ∀ b ∈ G, ∀ i, 0 <= i -> i < pf (k.ld s b) -> k.yg (k.ld s (b + 1 + i)) = false -> Gd k G (k.ld s (b + 1 + i))
section
variable {k : Ck} {G : List Int} {P : Int -> Int -> Prop} {s : Cs}
theorem Fin1.st (h : Fin1 k G P s) {b i v : Int} (hb : b ∈ G) (i0 : 0 <= i) (i1 : i < pf (k.ld s b)) (hv : Gd k G v) : Fin1 k G (fun c j => P c j /\ ¬ (c = b /\ j = i)) (k.st s (b + 1 + i) v) /\ ∀ c ∈ G, k.ld (k.st s (b + 1 + i) v) c = k.ld s c := by
 have hi := field_i h.full (Or.inr hb) i0 i1
 have hbd := iB_bd (O := k.O) hi h.hy h.hg
 obtain ⟨hF, hk⟩ := h.full.set (z := v) h.len h.hy h.hg (Or.inr hb) i0 i1
 have e : k.st s (b + 1 + i) v = { s with ws := s.ws.set (b + 1 + i).toNat v } := by
  unfold Ck.st
  rw [if_pos hi]
 have hk2 : ∀ c ∈ G, k.ld (k.st s (b + 1 + i) v) c = k.ld s c := fun c hc => by
  rw [e]
  exact hk c (Or.inr hc)
 have hld : ∀ c ∈ G, ∀ j, 0 <= j -> j < pf (k.ld s c) -> k.ld (k.st s (b + 1 + i) v) (c + 1 + j) = if (b + 1 + i).toNat = (c + 1 + j).toNat then v else k.ld s (c + 1 + j) := fun c hc j j0 j1 => by
  have hj := field_i h.full (Or.inr hc) j0 j1
  rw [e]
  show ld k.N k.y s.g (s.ws.set (b + 1 + i).toNat v) (c + 1 + j) = if _ then v else ld k.N k.y s.g s.ws (c + 1 + j)
  have hl := h.len
  rw [ld_in hj, ld_in hj, getD_set _ _ _ _ (by omega)]
 refine ⟨⟨by rw [e]; exact hF, by rw [e]; show (List.set _ _ _).length = _; rw [List.length_set]; exact h.len, h.hy, by rw [e]; exact h.hg, fun c hc j j0 j1 => ?_, fun c hc j j0 j1 => ?_⟩, hk2⟩
 ·rw [hk2 c hc] at j1
  rw [hld c hc j j0 j1]
  by_cases q : (b + 1 + i).toNat = (c + 1 + j).toNat
  ·rw [if_pos q]
   exact Or.inl hv
  ·rw [if_neg q]
   exact (h.fd c hc j j0 j1).imp id (fun p => ⟨p, fun ⟨x1, x2⟩ => q (by rw [x1, x2])⟩)
 ·rw [hk2 c hc] at j1
  rw [hld c hc j j0 j1]
  by_cases q : (b + 1 + i).toNat = (c + 1 + j).toNat
  ·rw [if_pos q]
   exact fun _ => hv
  ·rw [if_neg q]
   exact h.fy c hc j j0 j1
theorem Fin1.imp {Q : Int -> Int -> Prop} (h : Fin1 k G P s) (hp : ∀ b i, P b i -> Q b i) : Fin1 k G Q s := ⟨h.full, h.len, h.hy, h.hg, fun b hb i i0 i1 => (h.fd b hb i i0 i1).imp id (hp b i), h.fy⟩
theorem Gd.gone : Gd k G 3 := fun h => absurd h (by decide)
theorem Fin1.told (h : Fin1 k G P s) (hN : k.N <= 256) (hO : k.O <= 1024) {n : Int} (hn : n ∈ G) : Gd k G (ew 3 n) := fun _ => by
 have hb := h.full.io n hn
 have hg := h.hg
 have hy := h.hy
 obtain ⟨m, rfl⟩ : ∃ m : Nat, n = m := ⟨n.toNat, by omega⟩
 obtain ⟨e1, e2⟩ := ew_at m (by omega)
 refine ⟨?_, by rw [e2]; exact hn⟩
 unfold Ck.yg
 rw [e1, e2]
 simp only [Bool.true_and]
 cases hc : k.T.contains (m : Int)
 ·rfl
 ·have h1 : (m : Int) ∈ k.T := by simpa using hc
  have := h.full.iy _ h1
  omega
theorem Fin1.mw (hN : k.N <= 256) (hO : k.O <= 1024) : ∀ (l : List Int) {P : Int -> Int -> Prop} {s : Cs}, Fin1 k G P s -> (∀ a ∈ l, a ∈ G /\ pk (k.ld s a) = 3) -> (∀ a ∈ k.T, s.f a ≠ -1 -> s.f a ∈ G) -> Fin1 k G (fun b i => P b i /\ ¬ (b ∈ l /\ i = 0)) (l.foldl k.mw1 s) /\ (∀ c ∈ G, k.ld (l.foldl k.mw1 s) c = k.ld s c) /\ (l.foldl k.mw1 s).g = s.g /\ (l.foldl k.mw1 s).rs = s.rs /\ (l.foldl k.mw1 s).ep = s.ep
 | [], P, s, h, _, _ => ⟨h.imp (fun b i p => ⟨p, fun ⟨d, _⟩ => by cases d⟩), fun _ _ => rfl, rfl, rfl, rfl⟩
 | a :: l, P, s, h, hl, hf => by
  rw [List.foldl_cons]
  obtain ⟨ha, h3⟩ := hl a (by simp)
  have f2 := pf_two (h.full.to.mem a ha).2.2 (Or.inr (Or.inl h3))
  have f2 : pf (k.ld s a) = 2 := f2
  have x1 : a + 1 + 0 = a + 1 := by omega
  have fy := h.fy a ha 0 (by omega) (by omega)
  rw [x1] at fy
  obtain ⟨v, ev, hv⟩ : ∃ v, k.mw1 s a = k.st s (a + 1) v /\ Gd k G v := by
   unfold Ck.mw1
   cases hls : k.ls s (k.ld s (a + 1))
   ·refine ⟨k.nw s (k.ld s (a + 1)), by rw [if_neg (by simp)], ?_⟩
    cases hy : k.yg (k.ld s (a + 1))
    ·have e : k.nw s (k.ld s (a + 1)) = k.ld s (a + 1) := by
      unfold Ck.nw
      rw [hy]
      rfl
     rw [e]
     exact fy hy
    ·unfold Ck.ls at hls
     rw [hy, Bool.true_and] at hls
     have e : k.nw s (k.ld s (a + 1)) = ew 3 (s.f (aV (k.ld s (a + 1)))) := by
      unfold Ck.nw
      rw [hy, hls]
      rfl
     rw [e]
     unfold Ck.yg at hy
     rw [Bool.and_eq_true] at hy
     exact h.told hN hO (hf _ (by simpa using hy.2) (by simpa using hls))
   ·exact ⟨3, by rw [if_pos rfl], Gd.gone⟩
  obtain ⟨m1, m2⟩ := h.st ha (i := 0) (by omega) (by omega) hv
  rw [x1] at m1 m2
  rw [ev]
  obtain ⟨j1, j2, j3, j4, j5⟩ := Fin1.mw hN hO l m1 (fun c hc => by
   obtain ⟨n1, n2⟩ := hl c (List.mem_cons_of_mem _ hc)
   exact ⟨n1, by rw [m2 c n1]; exact n2⟩) hf
  refine ⟨j1.imp (fun b i ⟨⟨p1, p2⟩, p3⟩ => ⟨p1, fun ⟨d1, d2⟩ => ?_⟩), fun c hc => (j2 c hc).trans (m2 c hc), j3, j4, j5⟩
  rcases List.mem_cons.1 d1 with d | d
  ·exact p2 ⟨d, d2⟩
  ·exact p3 ⟨d, d2⟩
end
end Go.Proofs.YtnalfnlmaallmaaGreat

namespace Go.Proofs.YtnalfnlmaallmaaGreat
open Go.RowKit W Kp Stl
section
variable {k : Ck} {G : List Int}
theorem Fin1.be : ∀ (l : List Int) {P : Int -> Int -> Prop} {s : Cs}, Fin1 k G P s -> (∀ a ∈ l, a ∈ G /\ pk (k.ld s a) = 4) -> Fin1 k G (fun b i => P b i /\ ¬ (b ∈ l /\ (i = 0 \/ i = 1))) (l.foldl k.be1 s) /\ (∀ c ∈ G, k.ld (l.foldl k.be1 s) c = k.ld s c) /\ (l.foldl k.be1 s).g = s.g /\ (l.foldl k.be1 s).rs = s.rs
 | [], P, s, h, _ => ⟨h.imp (fun b i p => ⟨p, fun ⟨d, _⟩ => by cases d⟩), fun _ _ => rfl, rfl, rfl⟩
 | a :: l, P, s, h, hl => by
  rw [List.foldl_cons]
  obtain ⟨ha, h4⟩ := hl a (by simp)
  have f2 : pf (k.ld s a) = 2 := pf_two (h.full.to.mem a ha).2.2 (Or.inr (Or.inr h4))
  have x1 : a + 1 + 0 = a + 1 := by omega
  have x2 : a + 1 + 1 = a + 2 := by omega
  obtain ⟨m1, m2⟩ := h.st ha (i := 0) (v := 3) (by omega) (by omega) Gd.gone
  rw [x1] at m1 m2
  obtain ⟨n1, n2⟩ := m1.st ha (i := 1) (v := 3) (by omega) (by rw [m2 a ha]; omega) Gd.gone
  rw [x2] at n1 n2
  obtain ⟨j1, j2, j3, j4⟩ := Fin1.be l n1 (fun c hc => by
   obtain ⟨q1, q2⟩ := hl c (List.mem_cons_of_mem _ hc)
   exact ⟨q1, by rw [n2 c q1, m2 c q1]; exact q2⟩)
  refine ⟨j1.imp (fun b i ⟨⟨⟨p1, p2⟩, p3⟩, p4⟩ => ⟨p1, fun ⟨d1, d2⟩ => ?_⟩), fun c hc => ((j2 c hc).trans (n2 c hc)).trans (m2 c hc), j3, j4⟩
  rcases List.mem_cons.1 d1 with d | d
  ·rcases d2 with d2 | d2
   ·exact p2 ⟨d, d2⟩
   ·exact p3 ⟨d, d2⟩
  ·exact p4 ⟨d, d2⟩
theorem ld_old {N y g : Nat} {ws : List Int} {a : Int} (ha : (N : Int) <= a) (hy : y <= N) : ld N 0 g ws a = ld N y g ws a := by
 have e : iB N 0 g a = iB N y g a := by
  unfold iB hB
  have h1 : decide ((0 : Int) <= a /\ a < 0 + ((0 : Nat) : Int)) = false := decide_eq_false (by omega)
  have h2 : decide ((0 : Int) <= a /\ a < 0 + (y : Int)) = false := decide_eq_false (by omega)
  rw [h1, h2]
 unfold ld
 rw [e]
theorem Fin1.done {s : Cs} {rs : List Int} (h : Fin1 k G (fun _ _ => False) s) (hr : ∀ x ∈ rs, Gd k G x) : WInv k.N 0 s.g s.ws [] G rs := by
 have io := h.full.io
 have eq : ∀ a, (k.N : Int) <= a -> ld k.N 0 s.g s.ws a = ld k.N k.y s.g s.ws a := fun a ha => ld_old ha h.hy
 refine ⟨⟨by simpa using Tile.done (L := ld k.N 0 s.g s.ws) (hi := (0 : Int)), h.full.to.heads (fun x hx => eq x (io x hx).1)⟩, fun x hx ha => Or.inr (hr x hx ha).2, fun v hv i i0 i1 ha => ?_⟩
 rcases hv with d | d
 ·cases d
 ·have hv := io v d
  rw [eq v hv.1] at i1
  rw [eq (v + 1 + i) (by omega)] at ha ⊢
  exact Or.inr (((h.fd v d i i0 i1).resolve_right id) ha).2
end
end Go.Proofs.YtnalfnlmaallmaaGreat

namespace Go.Proofs.YtnalfnlmaallmaaGreat
open Go.RowKit W Kp Stl
section
variable {k : Jk} {al : Int -> Bool} {s : Js} {m : Int}
end
end Go.Proofs.YtnalfnlmaallmaaGreat

namespace Go.Proofs.YtnalfnlmaallmaaGreat
open Go.RowKit W Kp Stl
section
variable {k : Jk} {s : Js}
end
end Go.Proofs.YtnalfnlmaallmaaGreat

namespace Go.Proofs.YtnalfnlmaallmaaGreat
open Go.RowKit W Kp Stl
section
variable {k : Ck} {z : C0} {s t : Cs} {H K D : List Int}
theorem kr_wk (k : Ck) (s : Cs) : ∀ n, (k.kr s n).wk = s.wk /\ (k.kr s n).ep = s.ep /\ (k.kr s n).nx = s.nx
 | 0 => ⟨rfl, rfl, rfl⟩
 | n + 1 => by
  obtain ⟨h1, h2, h3⟩ := kr_wk k s n
  obtain ⟨_, j1, j2, j3⟩ := br_rs k (k.kr s n) ((k.kr s n).rs.getD n 0)
  exact ⟨j1.trans h1, j2.trans h2, j3.trans h3⟩
theorem WE.kr (w : WE k z s H) (h : MI k z s H) (n : Nat) (ht : MI k z (k.kr s n) K) (p : Pg k s (k.kr s n)) (hK : ∃ H2, K = H ++ H2) : WE k z (k.kr s n) K :=
 w.go h ht p hK (kr_wk k s n).1 (kr_wk k s n).2.1
theorem LI.lmw (c : Int) (M : List Int) (hz : Tile (k.l0 z) ((k.N : Int) + z.g) k.N z.G) : ∀ (l : List Int) {s : Cs} {H D : List Int}, LI k z s H D -> WE k z s H -> (∀ a ∈ l, a ∈ z.G \/ (k.N : Int) + z.g <= a) -> ∃ H' D', LI k z (l.foldl (k.lm1 ((k.N : Int) + z.g) c M) s) H' D' /\ WE k z (l.foldl (k.lm1 ((k.N : Int) + z.g) c M) s) H' /\ Pg k s (l.foldl (k.lm1 ((k.N : Int) + z.g) c M) s) /\ (∃ H2, H' = H ++ H2) /\ (∀ a ∈ D, a ∈ D') /\ ∀ a ∈ l, a ∈ z.G -> (cB k.N c a && M.contains (cN k.N a)) = true -> a ∈ D'
 | [], s, H, D, h, w, _ => ⟨H, D, h, w, Pg.refl _ _, ⟨[], by simp⟩, fun _ d => d, fun a ha => by cases ha⟩
 | b :: l, s, H, D, h, w, hl => by
  rw [List.foldl_cons]
  have hpf := pf_bd (k.ld s b)
  by_cases hbG : b ∈ z.G /\ (cB k.N c b && M.contains (cN k.N b)) = true
  ·have e0 := h.mi.hd b b (Or.inl ⟨rfl, hbG.1⟩)
   have hb := (hz.mem b hbG.1).2.1
   have e1 : k.lm1 ((k.N : Int) + z.g) c M s b = k.lk s b := by
    unfold Ck.lm1
    rw [if_pos (by rw [e0]; omega), if_pos hbG.2]
   rw [e1]
   obtain ⟨H1, m1, m2, ⟨H2, m3⟩⟩ := h.lk hbG.1
   have w1 := w.lk h.mi (List.mem_append_left H hbG.1) m1.mi m2 ⟨H2, m3⟩
   obtain ⟨H3, D3, j1, jw, j2, ⟨H4, j3⟩, j4, j5⟩ := LI.lmw c M hz l m1 w1 (fun a ha => hl a (List.mem_cons_of_mem _ ha))
   refine ⟨H3, D3, j1, jw, m2.trans j2, ⟨H2 ++ H4, by rw [j3, m3, List.append_assoc]⟩, fun a d => j4 a (List.mem_cons_of_mem _ d), fun a ha hg hm => ?_⟩
   rcases List.mem_cons.1 ha with d | d
   ·exact j4 a (by rw [d]; simp)
   ·exact j5 a d hg hm
  ·have e1 : k.lm1 ((k.N : Int) + z.g) c M s b = s := by
    unfold Ck.lm1
    by_cases hG : b ∈ z.G
    ·split
     ·rw [if_neg (fun e => hbG ⟨hG, e⟩)]
     ·rfl
    ·have := (hl b (by simp)).resolve_left hG
     rw [if_neg (by omega)]
   rw [e1]
   obtain ⟨H3, D3, j1, jw, j2, j3, j4, j5⟩ := LI.lmw c M hz l h w (fun a ha => hl a (List.mem_cons_of_mem _ ha))
   refine ⟨H3, D3, j1, jw, j2, j3, j4, fun a ha hg hm => ?_⟩
   rcases List.mem_cons.1 ha with d | d
   ·exact absurd ⟨by rw [<- d]; exact hg, by rw [<- d]; exact hm⟩ hbG
   ·exact j5 a d hg hm
end
end Go.Proofs.YtnalfnlmaallmaaGreat

namespace Go.Proofs.YtnalfnlmaallmaaGreat
open Go.RowKit W Kp Stl
def Rest (k : Ck) (z : C0) (D : List Int) (H : List Int) (s : Cs) : Prop := ∃ K, LI k z s K D /\ WE k z s K /\ CB k s /\ hB k.N s.g s.nx = false /\ ∃ H2, K = H ++ H2
section
variable {k : Ck} {z : C0} {D H : List Int}
theorem spr_cb : ∀ (n : Nat) (t : Cs × List En), CI k t.1 -> CB k t.1 -> CI k (k.spr n t).1 /\ CB k (k.spr n t).1
 | 0, t, h, hb => ⟨h, hb⟩
 | n + 1, t, h, hb => by
  obtain ⟨c1, c2, c3⟩ := CI.lb h hb (k.O + 1)
  obtain ⟨d1, d2, d3, d4⟩ := CI.kv c1 c2
  obtain ⟨f1, f2, _⟩ := CI.wa (s := ((k.kv (k.lb (k.O + 1) t.1)).2, t.2)) d1 d2
  unfold Ck.spr
  split
  ·exact spr_cb n ((k.kv (k.lb (k.O + 1) t.1)).2, t.2) d1 d2
  ·split
   ·exact spr_cb n _ f1 f2
   ·exact ⟨f1, f2⟩
theorem Rest.sp {t : Cs × List En} {H0 : List Int} (h : LI k z t.1 H0 D) (w : WE k z t.1 H0) (hb : CB k t.1) (e : ∃ H2, H0 = H ++ H2) : Rest k z D H (k.sp t).1 := by
 obtain ⟨K, m1, m2, _, ⟨B, m4⟩⟩ := Ru.sp (k := k) (z := z) (D := D) t H0 h w
 obtain ⟨A, e⟩ := e
 exact ⟨K, m1, m2, (spr_cb _ t h.mi.ci hb).2, spr_end _ t H0 h w hb (by omega), ⟨A ++ B, by rw [m4, e, List.append_assoc]⟩⟩
theorem Rest.ke {t : Cs × List En} (h : Rest k z D H t.1) (x : Int) : Rest k z D H (k.ke t x).2.1 := by
 obtain ⟨K, m1, m2, m3, _, ⟨A, m5⟩⟩ := h
 obtain ⟨K2, j1, j2, _, ⟨B, j4⟩⟩ := Ru.br (k := k) (z := z) (D := D) (s := t.1) x K m1 m2
 obtain ⟨_, e1, e2, e3⟩ := br_rs k t.1 x
 have hb : CB k (k.br t.1 x).2 := ⟨by rw [e1, e3]; exact m3.wk, by rw [e2, e3]; exact m3.ep⟩
 exact Rest.sp (t := ((k.br t.1 x).2, t.2)) j1 j2 hb ⟨A ++ B, by rw [j4, m5, List.append_assoc]⟩
theorem Rest.one {t : Cs × List En} (h : Rest k z D H t.1) (e : En) : Rest k z D H (cm (noSd Cs) (fun s x => k.al s.1 x) k.ke t e).2.1 := by
 unfold cm
 split
 ·exact h.ke e.2
 ·exact h
theorem Rest.part (l : List En) {t : Cs × List En} (h : Rest k z D H t.1) : Rest k z D H (pts (cm (noSd Cs) (fun s x => k.al s.1 x) k.ke) t l).2.2.1 := by
 have key : ∀ (l : List En) (p : List En × List En × (Cs × List En)), Rest k z D H p.2.2.1 -> Rest k z D H (l.foldl (pstep (cm (noSd Cs) (fun s x => k.al s.1 x) k.ke)) p).2.2.1 := by
  intro l
  induction l with
  | nil => exact fun p h => h
  | cons e l ih =>
   intro p hp
   rw [List.foldl_cons]
   refine ih _ ?_
   have h1 := hp.one e
   unfold pstep
   split
   ·exact h1
   ·exact h1
 exact key l ([], [], t) h
theorem Rest.turn : ∀ (n : Nat) {t : Cs × List En} (d : List En), Rest k z D H t.1 -> Rest k z D H (trn (cm (noSd Cs) (fun s x => k.al s.1 x) k.ke) n t d).1.1
 | 0, t, d, h => h
 | n + 1, t, d, h => by
  unfold trn
  split
  ·exact h.part d
  ·exact Rest.turn n _ (h.part d)
theorem Rest.sS {t : Cs × List En} (h : Rest k z D H t.1) (r : List En) : Rest k z D H (k.sS t r).1 := Rest.turn _ _ h
end
end Go.Proofs.YtnalfnlmaallmaaGreat

namespace Go.Proofs.YtnalfnlmaallmaaGreat
open Go.RowKit W Kp Stl
section
variable {k : Ck} {z : C0} {s : Cs} {H D : List Int}
theorem LI.fy (h : LI k z s H D)
  (hz : ∀ v, (v ∈ k.T \/ v ∈ z.G) -> ∀ i, 0 <= i -> i < pf (k.l0 z v) -> aB (k.l0 z (v + 1 + i)) = true -> aV (k.l0 z (v + 1 + i)) ∈ k.T \/ aV (k.l0 z (v + 1 + i)) ∈ z.G)
  {b : Int} (hb : b ∈ z.G ++ H) {i : Int} (i0 : 0 <= i) (i1 : i < pf (k.ld s b)) (ha : aB (k.ld s (b + 1 + i)) = true) (hy : k.yg (k.ld s (b + 1 + i)) = false) : aV (k.ld s (b + 1 + i)) ∈ z.G ++ H := by
 obtain ⟨a, o⟩ := h.mi.from hb
 have e0 := h.mi.hd a b o
 rw [e0] at i1
 have hm := h.mi.fd a b o i i0 i1
 have haT : a ∈ k.T \/ a ∈ z.G := by
  rcases o with ⟨e, d⟩ | ⟨d, _⟩
  ·exact Or.inr (by rw [e]; exact d)
  ·exact Or.inl d
 rcases hm with e | ⟨g1, g2, g3⟩
 ·rw [e] at ha hy ⊢
  rcases hz a haT i i0 i1 ha with d | d
  ·unfold Ck.yg at hy
   rw [ha] at hy
   simp at hy
   exact absurd d hy
  ·exact List.mem_append_left _ d
 ·have hT : aV (k.l0 z (a + 1 + i)) ∈ k.T := by
   unfold Ck.yg at g1
   rw [Bool.and_eq_true] at g1
   simpa using g1.2
  have hH := h.mi.fh _ hT g2
  have hbd := h.mi.bdH hH
  have hN := h.mi.ci.hN'
  have hO := h.mi.ci.hO
  have hg := h.mi.ci.hg
  obtain ⟨n, hn⟩ : ∃ n : Nat, s.f (aV (k.l0 z (a + 1 + i))) = n := ⟨(s.f (aV (k.l0 z (a + 1 + i)))).toNat, by omega⟩
  rw [g3, hn, (ew_at n (by omega)).2, <- hn]
  exact List.mem_append_right _ hH
theorem MI.noY (h : MI k z s H) {x : Int} (hx : aV x ∈ z.G ++ H) : k.yg x = false := by
 have h1 := h.ci.notT (h.bd hx).1
 unfold Ck.yg
 have e : k.T.contains (aV x) = false := by
  cases hc : k.T.contains (aV x)
  ·rfl
  ·exact absurd (by simpa using hc) h1
 rw [e, Bool.and_false]
/-! ### roots stand -/
theorem lb_rs (k : Ck) : ∀ (n : Nat) (s : Cs), (k.lb n s).rs = s.rs
 | 0, s => rfl
 | n + 1, s => by
  unfold Ck.lb
  split
  ·exact (lb_rs k n _).trans (lk_nx k s s.nx).2
  ·rfl
theorem kvl_rs (k : Ck) : ∀ (l : List Int) (t : List Int × Cs), (l.foldl k.kv1 t).2.rs = t.2.rs
 | [], t => rfl
 | a :: l, t => by
  rw [List.foldl_cons]
  refine (kvl_rs k l _).trans ?_
  unfold Ck.kv1
  split
  ·rfl
  ·exact (kf_wk ..).2.2.2.trans (kf_wk ..).2.2.2
theorem kv_rs (k : Ck) (s : Cs) : (k.kv s).2.rs = s.rs := kvl_rs k s.ep ([], s)
theorem wkl_rs (k : Ck) : ∀ (l : List Nat) (t : (Cs × List En) × Bool), (l.foldl (wkP k.al k.br) t).1.1.rs = t.1.1.rs
 | [], t => rfl
 | a :: l, t => by
  rw [List.foldl_cons]
  refine (wkl_rs k l _).trans ?_
  unfold wkP
  split
  ·rfl
  ·exact (br_rs ..).1
theorem spr_rs (k : Ck) : ∀ (n : Nat) (t : Cs × List En), (k.spr n t).1.rs = t.1.rs
 | 0, t => rfl
 | n + 1, t => by
  have e1 : (k.kv (k.lb (k.O + 1) t.1)).2.rs = t.1.rs := (kv_rs ..).trans (lb_rs ..)
  have e2 : (k.wa ((k.kv (k.lb (k.O + 1) t.1)).2, t.2)).1.1.rs = t.1.rs := (wkl_rs k _ (((k.kv (k.lb (k.O + 1) t.1)).2, t.2), false)).trans e1
  unfold Ck.spr
  split
  ·exact (spr_rs k n _).trans e1
  ·split
   ·exact (spr_rs k n _).trans e2
   ·exact e2
theorem ke_rs (k : Ck) (t : Cs × List En) (x : Int) : (k.ke t x).2.1.rs = t.1.rs := (spr_rs ..).trans (br_rs ..).1
theorem one_rs (k : Ck) (t : Cs × List En) (e : En) : (cm (noSd Cs) (fun s x => k.al s.1 x) k.ke t e).2.1.rs = t.1.rs := by
 unfold cm
 split
 ·exact ke_rs k t e.2
 ·rfl
theorem part_rs (k : Ck) (l : List En) (t : Cs × List En) : (pts (cm (noSd Cs) (fun s x => k.al s.1 x) k.ke) t l).2.2.1.rs = t.1.rs := by
 have key : ∀ (l : List En) (p : List En × List En × (Cs × List En)), (l.foldl (pstep (cm (noSd Cs) (fun s x => k.al s.1 x) k.ke)) p).2.2.1.rs = p.2.2.1.rs := by
  intro l
  induction l with
  | nil => exact fun p => rfl
  | cons e l ih =>
   intro p
   rw [List.foldl_cons]
   refine (ih _).trans ?_
   have h1 := one_rs k p.2.2 e
   unfold pstep
   split
   ·exact h1
   ·exact h1
 exact key l ([], [], t)
theorem turn_rs (k : Ck) : ∀ (n : Nat) (t : Cs × List En) (d : List En), (trn (cm (noSd Cs) (fun s x => k.al s.1 x) k.ke) n t d).1.1.rs = t.1.rs
 | 0, t, d => rfl
 | n + 1, t, d => by
  unfold trn
  split
  ·exact part_rs k d t
  ·exact (turn_rs k n _ _).trans (part_rs k d t)
theorem sS_rs (k : Ck) (t : Cs × List En) (r : List En) : (k.sS t r).1.rs = t.1.rs := turn_rs k _ _ _
theorem lm_len (k : Ck) (e c : Int) (M : List Int) : ∀ (l : List Int) (s : Cs), (l.foldl (k.lm1 e c M) s).wk.length <= s.wk.length + l.length /\ (l.foldl (k.lm1 e c M) s).ep.length <= s.ep.length + l.length /\ (l.foldl (k.lm1 e c M) s).nx = s.nx /\ (l.foldl (k.lm1 e c M) s).rs = s.rs
 | [], s => ⟨Nat.le_refl _, Nat.le_refl _, rfl, rfl⟩
 | b :: l, s => by
  rw [List.foldl_cons]
  obtain ⟨h1, h2, h3, h4⟩ := lm_len k e c M l (k.lm1 e c M s b)
  have key : (k.lm1 e c M s b).wk.length <= s.wk.length + 1 /\ (k.lm1 e c M s b).ep.length <= s.ep.length + 1 /\ (k.lm1 e c M s b).nx = s.nx /\ (k.lm1 e c M s b).rs = s.rs := by
   unfold Ck.lm1
   split
   ·split
    ·obtain ⟨w1, w2⟩ := lk_we k s b
     obtain ⟨n1, n2⟩ := lk_nx k s b
     refine ⟨?_, ?_, n1, n2⟩
     ·rcases w1 with d | ⟨_, d⟩
      ·rw [d]; omega
      ·rw [d, List.length_append]; simp
     ·rcases w2 with d | ⟨_, d⟩
      ·rw [d]; omega
      ·rw [d, List.length_append]; simp
    ·exact ⟨Nat.le_succ _, Nat.le_succ _, rfl, rfl⟩
   ·exact ⟨Nat.le_succ _, Nat.le_succ _, rfl, rfl⟩
  obtain ⟨k1, k2, k3, k4⟩ := key
  simp only [List.length_cons]
  exact ⟨by omega, by omega, h3.trans k3, h4.trans k4⟩
end
/-! ### how it begins -/
theorem Tw_eq {N O y g : Nat} {ws Y G : List Int} (h : Full2 N y g ws Y G) (hN : N <= 256) (hy : y <= N) (hO : O <= 1024) (hg : g <= O) : Tw N y g ws = Y := by
 unfold Tw
 rw [(h.lists hN hy hO hg).1]
 exact List.filter_eq_self.2 (fun x hx => decide_eq_true (by have := (h.ty.mem x hx).2.1; omega))
def Wst.z0 (s : Wst) (G : List Int) : C0 := ⟨s.g, s.ws, G⟩
theorem LI.start {a : Wc} {s : Wst} {Y G : List Int} (h : Full2 a.N s.y s.g s.ws Y G) (hN : 16 <= a.N) (hN' : a.N <= 256) (hO : a.O <= 1024) (hy : s.y <= a.N) (hg : s.g <= a.O) (hl : s.ws.length = a.N + a.O) (hr : s.y <= a.O - s.g) : LI (s.k0 a) (s.z0 G) (s.s0 a) [] [] := by
 have hT : (s.k0 a).T = Y := Tw_eq h hN' hy hO hg
 refine ⟨⟨CI.start hN hN' hO hy hg hl hr, Nat.le_refl _, ?_, fun b hb => (h.io b hb).2, fun _ _ _ => rfl, fun a _ e => absurd rfl e, fun a _ b _ e => absurd rfl e, fun b hb => (by cases hb), fun b hb => (by cases hb), fun a b o => ?_, fun a b o i i0 i1 => ?_⟩, Or.inr rfl, fun b hb => (by cases hb), fun b hb => (by cases hb), fun b hb => (by cases hb)⟩
 ·rw [hT, List.append_nil]
  exact h
 ·rcases o with ⟨e, _⟩ | ⟨_, e, e2⟩
  ·rw [e]
   rfl
  ·exact absurd e.symm e2
 ·rcases o with ⟨e, _⟩ | ⟨_, e, e2⟩
  ·rw [e]
   exact Or.inl rfl
  ·exact absurd e.symm e2
theorem WE.start (a : Wc) (s : Wst) (G : List Int) : WE (s.k0 a) (s.z0 G) (s.s0 a) [] := ⟨fun b hb => (by cases hb), fun b hb => (by cases hb)⟩
end Go.Proofs.YtnalfnlmaallmaaGreat
