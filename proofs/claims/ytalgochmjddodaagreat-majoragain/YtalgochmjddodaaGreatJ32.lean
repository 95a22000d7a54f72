/- Joined: Mn21, Mn22, Mn23, Mn24, Mn25, Mn26, Mn27, Mn28, Mn29. -/
import Derived.Test.YtalgochmjddodaaGreatJ31
import Derived.Test.YtalgochmjddodaaGreatJ17
namespace Go.Proofs.YtalgochmjddodaaGreat
open Go.RowKit W Kp Stl
section
variable {k : Ck} {z : C0} {s t : Cs} {H D : List Int}
theorem br_rs (k : Ck) (s : Cs) (x : Int) : (k.br s x).2.rs = s.rs /\ (k.br s x).2.wk = s.wk /\ (k.br s x).2.ep = s.ep /\ (k.br s x).2.nx = s.nx := by
 unfold Ck.br
 split <;> exact ⟨rfl, rfl, rfl, rfl⟩
theorem LI.roots (h : LI k z s H D) (rs : List Int) : LI k z { s with rs := rs } H D :=
 h.lift (h.mi.turn s.wk s.ep rs s.nx h.mi.ci.wk0 h.mi.ci.ep0 h.mi.ci.nx0 h.mi.ci.nx1) (Pg.turn k s s.wk s.ep rs s.nx) rfl rfl rfl h.bo (fun _ d _ => d)
theorem LI.kr (h : LI k z s H D) : ∀ n : Nat, n <= s.rs.length -> ∃ H', LI k z (k.kr s n) H' D /\ Pg k s (k.kr s n) /\ (∃ H2, H' = H ++ H2) /\ (k.kr s n).rs.length = s.rs.length /\ (∀ i, i < n -> k.yg ((k.kr s n).rs.getD i 0) = false) /\ (∀ i, n <= i -> (k.kr s n).rs.getD i 0 = s.rs.getD i 0) /\ ∀ i, i < n -> k.ml (k.kr s n) (s.rs.getD i 0) ((k.kr s n).rs.getD i 0)
 | 0, _ => ⟨H, h, Pg.refl _ _, ⟨[], by simp⟩, rfl, fun i hi => by omega, fun _ _ => rfl, fun i hi => by omega⟩
 | n + 1, hn => by
  obtain ⟨H1, m1, m2, ⟨H2, m3⟩, m4, m5, m6, m7⟩ := LI.kr h n (by omega)
  obtain ⟨H3, j1, j2, ⟨H4, j3⟩, j4, j5⟩ := m1.br ((k.kr s n).rs.getD n 0)
  obtain ⟨r1, _⟩ := br_rs k (k.kr s n) ((k.kr s n).rs.getD n 0)
  have hl : n < (k.br (k.kr s n) ((k.kr s n).rs.getD n 0)).2.rs.length := by rw [r1, m4]; omega
  have eg : ∀ i, ((k.br (k.kr s n) ((k.kr s n).rs.getD n 0)).2.rs.set n (k.br (k.kr s n) ((k.kr s n).rs.getD n 0)).1).getD i 0 = if n = i then (k.br (k.kr s n) ((k.kr s n).rs.getD n 0)).1 else (k.kr s n).rs.getD i 0 := fun i => by
   rw [getD_set _ _ _ _ hl, r1]
  have pt := Pg.turn k (k.br (k.kr s n) ((k.kr s n).rs.getD n 0)).2 (k.br (k.kr s n) ((k.kr s n).rs.getD n 0)).2.wk (k.br (k.kr s n) ((k.kr s n).rs.getD n 0)).2.ep ((k.br (k.kr s n) ((k.kr s n).rs.getD n 0)).2.rs.set n (k.br (k.kr s n) ((k.kr s n).rs.getD n 0)).1) (k.br (k.kr s n) ((k.kr s n).rs.getD n 0)).2.nx
  refine ⟨H3, j1.roots _, m2.trans (j2.trans pt), ⟨H2 ++ H4, by rw [j3, m3, List.append_assoc]⟩, ?_, fun i hi => ?_, fun i hi => ?_, fun i hi => ?_⟩
  ·show (List.set _ _ _).length = _
   rw [List.length_set, r1, m4]
  ·show k.yg ((List.set _ _ _).getD i 0) = false
   rw [eg]
   split
   ·exact j4
   ·exact m5 i (by omega)
  ·show (List.set _ _ _).getD i 0 = _
   rw [eg, if_neg (by omega)]
   exact m6 i (by omega)
  ·show k.ml _ _ ((List.set _ _ _).getD i 0)
   rw [eg]
   by_cases e : n = i
   ·rw [if_pos e]
    subst e
    have h1 := j5 (s.rs.getD n 0) (Or.inl (m6 n (Nat.le_refl _)))
    exact h1
   ·rw [if_neg e]
    exact (j2.trans pt).ml (m7 i (by omega))
end
end Go.Proofs.YtalgochmjddodaaGreat

namespace Go.Proofs.YtalgochmjddodaaGreat
open Go.RowKit W Kp Stl
theorem tile_more {L L' : Int -> Int} {hi hi' : Int} : ∀ {l m : List Int} {a : Int}, Tile L hi a l -> Tile L' hi' a (l ++ m) -> (∀ x ∈ l, L' x = L x) -> (hi ∈ m \/ hi = hi') /\ ∀ y ∈ m, hi <= y
 | [], m, a, h, h', _ => by
  have e : a = hi := h
  subst e
  refine ⟨?_, fun y hy => (h'.mem y hy).1⟩
  match m, h' with
  | [], h' => exact Or.inr h'
  | y :: m', h' =>
   obtain ⟨e', _⟩ := h'
   exact Or.inl (by rw [<- e']; simp)
 | u :: l, m, a, h, h', he => by
  obtain ⟨e, _, _, ht⟩ := h
  obtain ⟨_, _, _, ht'⟩ := h'
  have e2 := he u (by simp)
  rw [e] at e2
  rw [e2] at ht'
  exact tile_more ht ht' (fun x hx => he x (List.mem_cons_of_mem _ hx))
section
variable {k : Ck} {z : C0} {s t : Cs} {H D : List Int}
theorem LI.lk (h : LI k z s H D) {b : Int} (hb : b ∈ z.G) : ∃ H', LI k z (k.lk s b) H' (b :: D) /\ Pg k s (k.lk s b) /\ ∃ H2, H' = H ++ H2 := by
 have ho : k.or z s b b := Or.inl ⟨rfl, hb⟩
 obtain ⟨H', m1, m2, ⟨H2, m3⟩, m4, m5, m6⟩ := h.mi.lk ho
 obtain ⟨x1, x2⟩ := lk_nx k s b
 have tm := tile_more (l := z.G ++ H) (m := H2) h.mi.full.to (by have := m1.full.to; rw [m3, <- List.append_assoc] at this; exact this) (fun x hx => by
  obtain ⟨a, o⟩ := h.mi.from hx
  exact (m1.hd a x (m2.or o)).trans (h.mi.hd a x o).symm)
 have hle := h.nxle
 refine ⟨H', ⟨m1, ?_, fun c d lt => ?_, fun c d => ?_, fun c d => ?_⟩, m2, H2, m3⟩
 ·rw [x1]
  rcases h.bo with d | d
  ·exact Or.inl (by rw [m3]; exact List.mem_append_left _ d)
  ·rw [d]
   exact tm.1.imp (fun e => by rw [m3]; exact List.mem_append_right _ e) id
 ·rw [x1] at lt
  have hcH : c ∈ H := by
   rw [m3] at d
   rcases List.mem_append.1 d with d | d
   ·exact d
   ·have := tm.2 c d
    omega
  obtain ⟨a, o⟩ := h.mi.from (List.mem_append_right z.G hcH)
  exact Lo.go (h.lo c hcH lt) h.mi m1 m2 o (m5 c) (m6 c)
 ·rcases List.mem_cons.1 d with d | d
  ·rw [d]; exact m4
  ·exact Lo.go (h.ld c d) h.mi m1 m2 (Or.inl ⟨rfl, h.dg c d⟩) (m5 c) (m6 c)
 ·rcases List.mem_cons.1 d with d | d
  ·rw [d]; exact hb
  ·exact h.dg c d
end
end Go.Proofs.YtalgochmjddodaaGreat

namespace Go.Proofs.YtalgochmjddodaaGreat
open Go.RowKit W Kp Stl
structure WE (k : Ck) (z : C0) (s : Cs) (H : List Int) : Prop where
  wk : ∀ a ∈ s.wk, a ∈ z.G ++ H /\ pk (k.ld s a) = 3
  ep : ∀ a ∈ s.ep, a ∈ z.G ++ H /\ pk (k.ld s a) = 4
section
variable {k : Ck} {z : C0} {s t : Cs} {H K D : List Int}
theorem Pg.hd (p : Pg k s t) (h : MI k z s H) (ht : MI k z t K) {b : Int} (hb : b ∈ z.G ++ H) : k.ld t b = k.ld s b := by
 obtain ⟨a, o⟩ := h.from hb
 exact (ht.hd a b (p.or o)).trans (h.hd a b o).symm
theorem mem_more {G H K : List Int} {x : Int} (h : ∃ H2, K = H ++ H2) (hx : x ∈ G ++ H) : x ∈ G ++ K := by
 obtain ⟨H2, e⟩ := h
 rw [e, <- List.append_assoc]
 exact List.mem_append_left _ hx
theorem WE.go (w : WE k z s H) (h : MI k z s H) (ht : MI k z t K) (p : Pg k s t) (hK : ∃ H2, K = H ++ H2) (e1 : t.wk = s.wk) (e2 : t.ep = s.ep) : WE k z t K :=
 ⟨fun a ha => by
  rw [e1] at ha
  obtain ⟨m1, m2⟩ := w.wk a ha
  exact ⟨mem_more hK m1, by rw [p.hd h ht m1]; exact m2⟩, fun a ha => by
  rw [e2] at ha
  obtain ⟨m1, m2⟩ := w.ep a ha
  exact ⟨mem_more hK m1, by rw [p.hd h ht m1]; exact m2⟩⟩
theorem lk_we (k : Ck) (s : Cs) (b : Int) : ((k.lk s b).wk = s.wk \/ (pk (k.ld s b) = 3 /\ (k.lk s b).wk = s.wk ++ [b])) /\ ((k.lk s b).ep = s.ep \/ (pk (k.ld s b) = 4 /\ (k.lk s b).ep = s.ep ++ [b])) := by
 unfold Ck.lk
 split
 ·exact ⟨Or.inl (kfs_wk _ _ _ _).1, Or.inl (kfs_wk _ _ _ _).2.1⟩
 ·split
  ·rename_i e
   exact ⟨Or.inr ⟨e, (kf_wk _ _ _).1⟩, Or.inl (kf_wk _ _ _).2.1⟩
  ·split
   ·rename_i e
    exact ⟨Or.inl rfl, Or.inr ⟨e, rfl⟩⟩
   ·exact ⟨Or.inl rfl, Or.inl rfl⟩
theorem WE.lk (w : WE k z s H) (h : MI k z s H) {b : Int} (hb : b ∈ z.G ++ H) (ht : MI k z (k.lk s b) K) (p : Pg k s (k.lk s b)) (hK : ∃ H2, K = H ++ H2) : WE k z (k.lk s b) K := by
 obtain ⟨c1, c2⟩ := lk_we k s b
 refine ⟨fun a ha => ?_, fun a ha => ?_⟩
 ·rcases c1 with e | ⟨e3, e⟩
  ·rw [e] at ha
   obtain ⟨m1, m2⟩ := w.wk a ha
   exact ⟨mem_more hK m1, by rw [p.hd h ht m1]; exact m2⟩
  ·rw [e] at ha
   rcases List.mem_append.1 ha with d | d
   ·obtain ⟨m1, m2⟩ := w.wk a d
    exact ⟨mem_more hK m1, by rw [p.hd h ht m1]; exact m2⟩
   ·rw [List.mem_singleton] at d
    subst d
    exact ⟨mem_more hK hb, by rw [p.hd h ht hb]; exact e3⟩
 ·rcases c2 with e | ⟨e3, e⟩
  ·rw [e] at ha
   obtain ⟨m1, m2⟩ := w.ep a ha
   exact ⟨mem_more hK m1, by rw [p.hd h ht m1]; exact m2⟩
  ·rw [e] at ha
   rcases List.mem_append.1 ha with d | d
   ·obtain ⟨m1, m2⟩ := w.ep a d
    exact ⟨mem_more hK m1, by rw [p.hd h ht m1]; exact m2⟩
   ·rw [List.mem_singleton] at d
    subst d
    exact ⟨mem_more hK hb, by rw [p.hd h ht hb]; exact e3⟩
theorem LI.kf2 (h : LI k z s H D) {b : Int} (hb : b ∈ z.G ++ H) (h4 : pk (k.ld s b) = 4) : ∃ H', LI k z (k.kf (k.kf s (b + 1)) (b + 2)) H' D /\ Pg k s (k.kf (k.kf s (b + 1)) (b + 2)) /\ (∃ H2, H' = H ++ H2) /\ k.yg (k.ld (k.kf (k.kf s (b + 1)) (b + 2)) (b + 1)) = false /\ k.yg (k.ld (k.kf (k.kf s (b + 1)) (b + 2)) (b + 2)) = false := by
 obtain ⟨a, o⟩ := h.mi.from hb
 have hbd := h.mi.bd hb
 have f2 := pf_two hbd.2.2 (Or.inr (Or.inr h4))
 have e0 := h.mi.hd a b o
 obtain ⟨H1, m1, m2, m3, ⟨H2, m4⟩⟩ := h.kf (i := 0) o (by omega) (by rw [<- e0]; omega)
 obtain ⟨H3, j1, j2, j3, ⟨H4, j4⟩⟩ := m1.kf (i := 1) (m2.or o) (by omega) (by rw [<- e0]; omega)
 have x1 : b + 1 + 0 = b + 1 := by omega
 have x2 : b + 1 + 1 = b + 2 := by omega
 rw [x1] at m1 m2 m3 j1 j2 j3
 rw [x2] at j1 j2 j3
 exact ⟨H3, j1, m2.trans j2, ⟨H2 ++ H4, by rw [j4, m4, List.append_assoc]⟩, j2.cl _ (by omega) (by have := m2.g; omega) m3, j3⟩
theorem LI.kvf : ∀ (l left : List Int) {s : Cs} {H : List Int}, LI k z s H D -> (∀ a ∈ l, a ∈ z.G ++ H /\ pk (k.ld s a) = 4) -> ∃ H', LI k z (l.foldl k.kv1 (left, s)).2 H' D /\ Pg k s (l.foldl k.kv1 (left, s)).2 /\ (∃ H2, H' = H ++ H2) /\ (l.foldl k.kv1 (left, s)).2.wk = s.wk /\ (l.foldl k.kv1 (left, s)).2.ep = s.ep /\ (∀ a ∈ l, a ∈ (l.foldl k.kv1 (left, s)).1 \/ (k.yg (k.ld (l.foldl k.kv1 (left, s)).2 (a + 1)) = false /\ k.yg (k.ld (l.foldl k.kv1 (left, s)).2 (a + 2)) = false)) /\ (∀ a ∈ left, a ∈ (l.foldl k.kv1 (left, s)).1) /\ ∀ a ∈ (l.foldl k.kv1 (left, s)).1, a ∈ left \/ a ∈ l
 | [], left, s, H, h, _ => ⟨H, h, Pg.refl _ _, ⟨[], by simp⟩, rfl, rfl, fun a ha => (by cases ha), fun _ d => d, fun _ d => Or.inl d⟩
 | b :: l, left, s, H, h, hl => by
  rw [List.foldl_cons]
  cases hls : k.ls s (k.ld s (b + 1))
  ·have e1 : k.kv1 (left, s) b = (left, k.kf (k.kf s (b + 1)) (b + 2)) := by
    unfold Ck.kv1
    rw [if_neg (by rw [hls]; simp)]
   rw [e1]
   obtain ⟨hb1, hb2⟩ := hl b (by simp)
   obtain ⟨H1, m1, m2, m3, m4, m5⟩ := h.kf2 hb1 hb2
   obtain ⟨H3, j1, j2, j3, j4, j5, j6, j7, j8⟩ := LI.kvf l left m1 (fun a ha => by
    obtain ⟨n1, n2⟩ := hl a (List.mem_cons_of_mem _ ha)
    exact ⟨mem_more m3 n1, by rw [m2.hd h.mi m1.mi n1]; exact n2⟩)
   obtain ⟨w1, w2, _⟩ := kf_wk k s (b + 1)
   obtain ⟨w3, w4, _⟩ := kf_wk k (k.kf s (b + 1)) (b + 2)
   have hbd := h.mi.bd hb1
   have f2 := pf_two hbd.2.2 (Or.inr (Or.inr hb2))
   have hg := m2.g
   refine ⟨H3, j1, m2.trans j2, ?_, j4.trans (w3.trans w1), j5.trans (w4.trans w2), fun a ha => ?_, j7, fun a ha => (j8 a ha).imp id (List.mem_cons_of_mem _)⟩
   ·obtain ⟨A1, x1⟩ := m3
    obtain ⟨A2, x2⟩ := j3
    exact ⟨A1 ++ A2, by rw [x2, x1, List.append_assoc]⟩
   ·rcases List.mem_cons.1 ha with d | d
    ·subst d
     exact Or.inr ⟨j2.cl _ (by omega) (by omega) m4, j2.cl _ (by omega) (by omega) m5⟩
    ·exact j6 a d
  ·have e1 : k.kv1 (left, s) b = (left ++ [b], s) := by
    unfold Ck.kv1
    rw [if_pos hls]
   rw [e1]
   obtain ⟨H3, j1, j2, j3, j4, j5, j6, j7, j8⟩ := LI.kvf l (left ++ [b]) h (fun a ha => hl a (List.mem_cons_of_mem _ ha))
   refine ⟨H3, j1, j2, j3, j4, j5, fun a ha => ?_, fun a d => j7 a (List.mem_append_left _ d), fun a ha => ?_⟩
   ·rcases List.mem_cons.1 ha with d | d
    ·exact Or.inl (j7 a (by rw [d]; simp))
    ·exact j6 a d
   ·rcases j8 a ha with d | d
    ·rcases List.mem_append.1 d with d | d
     ·exact Or.inl d
     ·rw [List.mem_singleton] at d
      exact Or.inr (by rw [d]; simp)
    ·exact Or.inr (List.mem_cons_of_mem _ d)
end
end Go.Proofs.YtalgochmjddodaaGreat

namespace Go.Proofs.YtalgochmjddodaaGreat
open Go.RowKit W Kp Stl
section
variable {k : Ck} {z : C0} {s t : Cs} {H K D : List Int}
theorem WE.lb1 (w : WE k z s H) (h : LI k z s H D) (hn : hB k.N s.g s.nx = true) (ht : MI k z { k.lk s s.nx with nx := s.nx + (1 + pf (k.ld s s.nx)) } K) (p : Pg k s { k.lk s s.nx with nx := s.nx + (1 + pf (k.ld s s.nx)) }) (hK : ∃ H2, K = H ++ H2) : WE k z { k.lk s s.nx with nx := s.nx + (1 + pf (k.ld s s.nx)) } K := by
 have hb := hB_yes hn
 have hnx : s.nx ∈ H := h.bo.resolve_right (by omega)
 obtain ⟨x1, _⟩ := lk_nx k s s.nx
 have m : MI k z (k.lk s s.nx) K := ht.turn (k.lk s s.nx).wk (k.lk s s.nx).ep (k.lk s s.nx).rs (k.lk s s.nx).nx ht.ci.wk0 ht.ci.ep0 (by rw [x1]; exact h.mi.ci.nx0) (by rw [x1]; exact h.mi.ci.nx1)
 have w2 := w.lk h.mi (List.mem_append_right z.G hnx) m ⟨p.f, p.g, p.cl⟩ hK
 exact ⟨w2.wk, w2.ep⟩
theorem LI.lbw : ∀ (n : Nat) {s : Cs} {H : List Int}, LI k z s H D -> WE k z s H -> ∃ H', LI k z (k.lb n s) H' D /\ WE k z (k.lb n s) H' /\ Pg k s (k.lb n s) /\ (∃ H2, H' = H ++ H2) /\ (((k.N : Int) + k.O - s.nx).toNat < n -> hB k.N (k.lb n s).g (k.lb n s).nx = false)
 | 0, s, H, h, w => ⟨H, h, w, Pg.refl _ _, ⟨[], by simp⟩, fun e => absurd e (by omega)⟩
 | n + 1, s, H, h, w => by
  unfold Ck.lb
  cases hn : hB k.N s.g s.nx
  ·rw [if_neg (by simp)]
   exact ⟨H, h, w, Pg.refl _ _, ⟨[], by simp⟩, fun _ => hn⟩
  ·rw [if_pos rfl]
   obtain ⟨H1, m1, m2, m3⟩ := h.lb1 hn
   have w1 := w.lb1 h hn m1.mi m2 m3
   obtain ⟨H2, m3⟩ := m3
   obtain ⟨H3, j1, jw, j2, ⟨H4, j3⟩, j4⟩ := LI.lbw n m1 w1
   refine ⟨H3, j1, jw, m2.trans j2, ⟨H2 ++ H4, by rw [j3, m3, List.append_assoc]⟩, fun e => j4 ?_⟩
   have hpf := pf_bd (k.ld s s.nx)
   have hb := hB_yes hn
   have hg := h.mi.ci.hg
   dsimp only
   omega
theorem Lo.ep {b : Int} (l : Lo k t b) (e : List Int) (hc : b ∈ t.ep -> b ∈ e \/ (k.yg (k.ld t (b + 1)) = false /\ k.yg (k.ld t (b + 2)) = false)) (h2 : pk (k.ld t b) = 4 -> pf (k.ld t b) = 2) : Lo k { t with ep := e } b := by
 intro i i0 i1
 have i2 : i < pf (k.ld t b) := i1
 rcases l i i0 i2 with d | d | ⟨d1, d2⟩
 ·exact Or.inl d
 ·exact Or.inr (Or.inl d)
 ·rcases hc d2 with c | ⟨c1, c2⟩
  ·exact Or.inr (Or.inr ⟨d1, c⟩)
  ·have f2 := h2 d1
   left
   show k.yg (k.ld t (b + 1 + i)) = false
   rcases (by omega : i = 0 \/ i = 1) with e | e
   ·rw [e, show b + 1 + 0 = b + 1 by omega]
    exact c1
   ·rw [e, show b + 1 + 1 = b + 2 by omega]
    exact c2
theorem LI.kv (h : LI k z s H D) (w : WE k z s H) : ∃ H', LI k z (k.kv s).2 H' D /\ WE k z (k.kv s).2 H' /\ Pg k s (k.kv s).2 /\ ∃ H2, H' = H ++ H2 := by
 obtain ⟨H', j1, j2, j3, j4, j5, j6, _, j8⟩ := LI.kvf s.ep [] h w.ep
 unfold Ck.kv Ck.kvf
 dsimp only
 have sub : ∀ a ∈ (s.ep.foldl k.kv1 ([], s)).1, a ∈ s.ep := fun a ha => (j8 a ha).elim (fun d => by cases d) id
 have mt := j1.mi.turn (s.ep.foldl k.kv1 ([], s)).2.wk (s.ep.foldl k.kv1 ([], s)).1 (s.ep.foldl k.kv1 ([], s)).2.rs (s.ep.foldl k.kv1 ([], s)).2.nx j1.mi.ci.wk0 (fun a ha => h.mi.ci.ep0 a (sub a ha)) j1.mi.ci.nx0 j1.mi.ci.nx1
 have w2 := w.go h.mi j1.mi j2 j3 j4 j5
 have cl : ∀ b, b ∈ (s.ep.foldl k.kv1 ([], s)).2.ep -> b ∈ (s.ep.foldl k.kv1 ([], s)).1 \/ (k.yg (k.ld (s.ep.foldl k.kv1 ([], s)).2 (b + 1)) = false /\ k.yg (k.ld (s.ep.foldl k.kv1 ([], s)).2 (b + 2)) = false) := fun b hb => j6 b (by rw [<- j5]; exact hb)
 have two : ∀ b, b ∈ z.G ++ H' -> pk (k.ld (s.ep.foldl k.kv1 ([], s)).2 b) = 4 -> pf (k.ld (s.ep.foldl k.kv1 ([], s)).2 b) = 2 := fun b hb e => pf_two (j1.mi.bd hb).2.2 (Or.inr (Or.inr e))
 refine ⟨H', ⟨mt, j1.bo, fun b d lt => ?_, fun b d => ?_, j1.dg⟩, ⟨w2.wk, fun a ha => w2.ep a (by rw [j5]; exact sub a ha)⟩, ⟨j2.f, j2.g, j2.cl⟩, j3⟩
 ·exact (j1.lo b d lt).ep _ (cl b) (two b (List.mem_append_right _ d))
 ·exact (j1.ld b d).ep _ (cl b) (two b (List.mem_append_left _ (j1.dg b d)))
end
end Go.Proofs.YtalgochmjddodaaGreat

namespace Go.Proofs.YtalgochmjddodaaGreat
open Go.RowKit W Kp Stl
def Ru (k : Ck) (z : C0) (D : List Int) (s t : Cs) : Prop := ∀ H, LI k z s H D -> WE k z s H -> ∃ H', LI k z t H' D /\ WE k z t H' /\ Pg k s t /\ ∃ H2, H' = H ++ H2
section
variable {k : Ck} {z : C0} {s t u : Cs} {D : List Int}
theorem Ru.refl : Ru k z D s s := fun H h w => ⟨H, h, w, Pg.refl _ _, ⟨[], by simp⟩⟩
theorem Ru.trans (h : Ru k z D s t) (j : Ru k z D t u) : Ru k z D s u := fun H l w => by
 obtain ⟨H1, m1, m2, m3, ⟨A, m4⟩⟩ := h H l w
 obtain ⟨H3, j1, j2, j3, ⟨B, j4⟩⟩ := j H1 m1 m2
 exact ⟨H3, j1, j2, m3.trans j3, ⟨A ++ B, by rw [j4, m4, List.append_assoc]⟩⟩
theorem Ru.br (x : Int) : Ru k z D s (k.br s x).2 := fun _ h w => by
 obtain ⟨H', m1, m2, m3, _, _⟩ := h.br x
 obtain ⟨_, e1, e2, _⟩ := br_rs k s x
 exact ⟨H', m1, w.go h.mi m1.mi m2 m3 e1 e2, m2, m3⟩
theorem Ru.lb (n : Nat) : Ru k z D s (k.lb n s) := fun _ h w => by
 obtain ⟨H', m1, m2, m3, m4, _⟩ := LI.lbw n h w
 exact ⟨H', m1, m2, m3, m4⟩
theorem Ru.kv : Ru k z D s (k.kv s).2 := fun _ h w => h.kv w
theorem Ru.wkl : ∀ (l : List Nat) (t : (Cs × List En) × Bool), Ru k z D t.1.1 (l.foldl (wkP k.al k.br) t).1.1
 | [], t => Ru.refl
 | i :: l, t => by
  rw [List.foldl_cons]
  refine Ru.trans ?_ (Ru.wkl l _)
  unfold wkP
  split
  ·exact Ru.refl
  ·exact Ru.br _
theorem Ru.wa (t : Cs × List En) : Ru k z D t.1 (k.wa t).1.1 := Ru.wkl (List.range t.2.length) (t, false)
theorem Ru.spr : ∀ (n : Nat) (t : Cs × List En), Ru k z D t.1 (k.spr n t).1
 | 0, t => Ru.refl
 | n + 1, t => by
  have h1 : Ru k z D t.1 (k.kv (k.lb (k.O + 1) t.1)).2 := (Ru.lb (k.O + 1)).trans Ru.kv
  unfold Ck.spr
  split
  ·exact h1.trans (Ru.spr n ((k.kv (k.lb (k.O + 1) t.1)).2, t.2))
  ·split
   ·exact (h1.trans (Ru.wa ((k.kv (k.lb (k.O + 1) t.1)).2, t.2))).trans (Ru.spr n (k.wa ((k.kv (k.lb (k.O + 1) t.1)).2, t.2)).1)
   ·exact h1.trans (Ru.wa ((k.kv (k.lb (k.O + 1) t.1)).2, t.2))
theorem Ru.sp (t : Cs × List En) : Ru k z D t.1 (k.sp t).1 := Ru.spr _ t
theorem Ru.ke (t : Cs × List En) (x : Int) : Ru k z D t.1 (k.ke t x).2.1 := (Ru.br x).trans (Ru.sp ((k.br t.1 x).2, t.2))
theorem Ru.one (t : Cs × List En) (e : En) : Ru k z D t.1 (cm (noSd Cs) (fun s x => k.al s.1 x) k.ke t e).2.1 := by
 unfold cm
 split
 ·exact Ru.ke t e.2
 ·exact Ru.refl
theorem Ru.part (l : List En) (t : Cs × List En) : Ru k z D t.1 (pts (cm (noSd Cs) (fun s x => k.al s.1 x) k.ke) t l).2.2.1 := by
 have key : ∀ (l : List En) (p : List En × List En × (Cs × List En)), Ru k z D p.2.2.1 (l.foldl (pstep (cm (noSd Cs) (fun s x => k.al s.1 x) k.ke)) p).2.2.1 := by
  intro l
  induction l with
  | nil => exact fun p => Ru.refl
  | cons e l ih =>
   intro p
   rw [List.foldl_cons]
   refine Ru.trans ?_ (ih _)
   have h1 := Ru.one (k := k) (z := z) (D := D) p.2.2 e
   unfold pstep
   split
   ·exact h1
   ·exact h1
 exact key l ([], [], t)
theorem Ru.turn : ∀ (n : Nat) (t : Cs × List En) (d : List En), Ru k z D t.1 (trn (cm (noSd Cs) (fun s x => k.al s.1 x) k.ke) n t d).1.1
 | 0, t, d => Ru.refl
 | n + 1, t, d => by
  unfold trn
  split
  ·exact Ru.part d t
  ·exact (Ru.part d t).trans (Ru.turn n _ _)
theorem Ru.sS (t : Cs × List En) (r : List En) : Ru k z D t.1 (k.sS t r).1 := Ru.turn _ _ _
end
end Go.Proofs.YtalgochmjddodaaGreat

namespace Go.Proofs.YtalgochmjddodaaGreat
open Go.RowKit W Kp Stl
section
variable {k : Ck} {z : C0} {s t : Cs} {D : List Int}
theorem kvf_idle (k : Ck) : ∀ (l left : List Int) (s : Cs), (l.foldl k.kv1 (left, s)).1.length <= left.length + l.length /\ ((l.foldl k.kv1 (left, s)).1.length = left.length + l.length -> (l.foldl k.kv1 (left, s)).2 = s)
 | [], left, s => ⟨by simp, fun _ => rfl⟩
 | b :: l, left, s => by
  rw [List.foldl_cons]
  cases hls : k.ls s (k.ld s (b + 1))
  ·have e1 : k.kv1 (left, s) b = (left, k.kf (k.kf s (b + 1)) (b + 2)) := by
    unfold Ck.kv1
    rw [if_neg (by rw [hls]; simp)]
   rw [e1]
   have h1 := (kvf_idle k l left (k.kf (k.kf s (b + 1)) (b + 2))).1
   rw [List.length_cons]
   exact ⟨by omega, fun e => by omega⟩
  ·have e1 : k.kv1 (left, s) b = (left ++ [b], s) := by
    unfold Ck.kv1
    rw [if_pos hls]
   rw [e1]
   obtain ⟨h1, h2⟩ := kvf_idle k l (left ++ [b]) s
   rw [List.length_append, List.length_singleton] at h1 h2
   rw [List.length_cons]
   exact ⟨by omega, fun e => h2 (by omega)⟩
theorem kv_idle (k : Ck) (s : Cs) (h : (k.kv s).1 = false) : (k.kv s).2.g = s.g /\ (k.kv s).2.nx = s.nx := by
 unfold Ck.kv Ck.kvf at h ⊢
 dsimp only at h ⊢
 obtain ⟨h1, h2⟩ := kvf_idle k s.ep [] s
 have h3 := of_decide_eq_false h
 rw [List.length_nil, Nat.zero_add] at h1 h2
 rw [h2 (by omega)]
 exact ⟨rfl, rfl⟩
theorem wkl_idle (k : Ck) : ∀ (l : List Nat) (t : (Cs × List En) × Bool), (l.foldl (wkP k.al k.br) t).2 = false -> (l.foldl (wkP k.al k.br) t).1 = t.1 /\ t.2 = false
 | [], t, h => ⟨rfl, h⟩
 | i :: l, t, h => by
  rw [List.foldl_cons] at h ⊢
  obtain ⟨h1, h2⟩ := wkl_idle k l _ h
  unfold wkP at h1 h2 ⊢
  split at h2
  ·rename_i e
   rw [if_pos e] at h1 ⊢
   exact ⟨h1, h2⟩
  ·cases h2
theorem wa_idle (k : Ck) (t : Cs × List En) (h : (k.wa t).2 = false) : (k.wa t).1 = t := (wkl_idle k (List.range t.2.length) (t, false) h).1
theorem spr_end : ∀ (n : Nat) (t : Cs × List En) (H : List Int), LI k z t.1 H D -> WE k z t.1 H -> CB k t.1 -> k.mu t.1 < n -> hB k.N (k.spr n t).1.g (k.spr n t).1.nx = false
 | 0, t, H, _, _, _, e => absurd e (by omega)
 | n + 1, t, H, h, w, hb, e => by
  obtain ⟨H1, l1, w1, _, _, e1⟩ := LI.lbw (k.O + 1) h w
  have nx0 := h.mi.ci.nx0
  have hE := e1 (by omega)
  obtain ⟨c1, c2, c3⟩ := CI.lb h.mi.ci hb (k.O + 1)
  obtain ⟨d1, d2, d3, d4⟩ := CI.kv c1 c2
  obtain ⟨H2, l2, w2, _, _⟩ := l1.kv w1
  unfold Ck.spr
  cases hk : (k.kv (k.lb (k.O + 1) t.1)).1
  ·rw [if_neg (by simp)]
   obtain ⟨g1, g2⟩ := kv_idle k _ hk
   obtain ⟨f1, f2, f3, f4, f5⟩ := CI.wa (s := ((k.kv (k.lb (k.O + 1) t.1)).2, t.2)) d1 d2
   cases hw : (k.wa ((k.kv (k.lb (k.O + 1) t.1)).2, t.2)).2
   ·rw [if_neg (by simp), wa_idle k _ hw]
    dsimp only
    rw [g1, g2]
    exact hE
   ·rw [if_pos rfl]
    obtain ⟨H3, l3, w3, _, _⟩ := Ru.wa (k := k) (z := z) (D := D) ((k.kv (k.lb (k.O + 1) t.1)).2, t.2) H2 l2 w2
    have h5 := f5 hw
    dsimp only at h5
    exact spr_end n _ H3 l3 w3 f2 (by omega)
  ·rw [if_pos rfl]
   have h5 := d4 hk
   exact spr_end n ((k.kv (k.lb (k.O + 1) t.1)).2, t.2) H2 l2 w2 d2 (by dsimp only; omega)
end
end Go.Proofs.YtalgochmjddodaaGreat

namespace Go.Proofs.YtalgochmjddodaaGreat
open Go.RowKit W Kp Stl
section
variable {k : Ck} {z : C0} {s : Cs} {H D : List Int}
theorem LI.fields (h : LI k z s H D) (he : hB k.N s.g s.nx = false)
  (hz : ∀ v, (v ∈ k.T \/ v ∈ z.G) -> ∀ i, 0 <= i -> i < pf (k.l0 z v) -> aB (k.l0 z (v + 1 + i)) = true -> aV (k.l0 z (v + 1 + i)) ∈ k.T \/ aV (k.l0 z (v + 1 + i)) ∈ z.G)
  (hc : ∀ v ∈ z.G, v ∉ D -> ∀ i, 0 <= i -> i < pf (k.l0 z v) -> k.yg (k.l0 z (v + 1 + i)) = false)
  {b : Int} (hb : b ∈ z.G ++ H) {i : Int} (i0 : 0 <= i) (i1 : i < pf (k.ld s b)) (ha : aB (k.ld s (b + 1 + i)) = true) :
  aV (k.ld s (b + 1 + i)) ∈ z.G ++ H \/ (pk (k.ld s b) = 3 /\ i = 0 /\ b ∈ s.wk) \/ (pk (k.ld s b) = 4 /\ b ∈ s.ep) := by
 obtain ⟨a, o⟩ := h.mi.from hb
 have e0 := h.mi.hd a b o
 rw [e0] at i1
 have hm := h.mi.fd a b o i i0 i1
 have haT : a ∈ k.T \/ a ∈ z.G := by
  rcases o with ⟨e, d⟩ | ⟨d, _⟩
  ·exact Or.inr (by rw [e]; exact d)
  ·exact Or.inl d
 have hnx : s.nx = (k.N : Int) + s.g := by
  rcases h.bo with d | d
  ·have h1 := h.mi.bdH d
   unfold hB at he
   have := of_decide_eq_false he
   omega
  ·exact d
 -- not young now: it leads to an old thing
 have key : k.yg (k.ld s (b + 1 + i)) = false -> aV (k.ld s (b + 1 + i)) ∈ z.G ++ H := fun hy => by
  rcases hm with e | ⟨g1, g2, g3⟩
  ·rw [e] at ha hy ⊢
   rcases hz a haT i i0 i1 ha with d | d
   ·unfold Ck.yg at hy
    rw [ha] at hy
    simp at hy
    exact absurd d hy
   ·exact List.mem_append_left _ d
  ·have hT : aV (k.l0 z (a + 1 + i)) ∈ k.T := by
    unfold Ck.yg at g1
    rw [Bool.and_eq_true] at g1
    simpa using g1.2
   have hH := h.mi.fh _ hT g2
   have hbd := h.mi.bdH hH
   have hN := h.mi.ci.hN'
   have hO := h.mi.ci.hO
   have hg := h.mi.ci.hg
   obtain ⟨n, hn⟩ : ∃ n : Nat, s.f (aV (k.l0 z (a + 1 + i))) = n := ⟨(s.f (aV (k.l0 z (a + 1 + i)))).toNat, by omega⟩
   rw [g3, hn, (ew_at n (by omega)).2, <- hn]
   exact List.mem_append_right _ hH
 rcases List.mem_append.1 hb with d | d
 ·by_cases hD : b ∈ D
  ·rcases h.ld b hD i i0 (by rw [e0]; exact i1) with c | c | c
   ·exact Or.inl (key c)
   ·exact Or.inr (Or.inl c)
   ·exact Or.inr (Or.inr c)
  ·have ea : a = b := by
    rcases o with ⟨e, _⟩ | ⟨o1, o2, o3⟩
    ·exact e
    ·have h1 := h.mi.hlo b (by rw [<- o2]; exact h.mi.fh a o1 (by rw [o2]; exact o3))
     have h2 := h.mi.zh b d
     omega
   subst ea
   have hy := hc a d hD i i0 i1
   refine Or.inl (key ?_)
   rcases hm with e | ⟨g1, _⟩
   ·rw [e]; exact hy
   ·rw [hy] at g1
    cases g1
 ·rcases h.lo b d (by rw [hnx]; exact (h.mi.bdH d).2) i i0 (by rw [e0]; exact i1) with c | c | c
  ·exact Or.inl (key c)
  ·exact Or.inr (Or.inl c)
  ·exact Or.inr (Or.inr c)
end
end Go.Proofs.YtalgochmjddodaaGreat

namespace Go.Proofs.YtalgochmjddodaaGreat
open Go.RowKit W Kp Stl
def Gd (k : Ck) (G : List Int) (x : Int) : Prop := aB x = true -> k.yg x = false /\ aV x ∈ G
structure Fin1 (k : Ck) (G : List Int) (P : Int -> Int -> Prop) (s : Cs) : Prop where
  full : Full2 k.N k.y s.g s.ws k.T G
  len : s.ws.length = k.N + k.O
  hy : k.y <= k.N
  hg : s.g <= k.O
  fd : ∀ b ∈ G, ∀ i, 0 <= i -> i < pf (k.ld s b) -> Gd k G (k.ld s (b + 1 + i)) \/ P b i
  fy : ∀ b ∈ G, ∀ i, 0 <= i -> i < pf (k.ld s b) -> k.yg (k.ld s (b + 1 + i)) = false -> Gd k G (k.ld s (b + 1 + i))
section
variable {k : Ck} {G : List Int} {P : Int -> Int -> Prop} {s : Cs}
theorem Fin1.st (h : Fin1 k G P s) {b i v : Int} (hb : b ∈ G) (i0 : 0 <= i) (i1 : i < pf (k.ld s b)) (hv : Gd k G v) : Fin1 k G (fun c j => P c j /\ ¬ (c = b /\ j = i)) (k.st s (b + 1 + i) v) /\ ∀ c ∈ G, k.ld (k.st s (b + 1 + i) v) c = k.ld s c := by
 have hi := field_i h.full (Or.inr hb) i0 i1
 have hbd := iB_bd (O := k.O) hi h.hy h.hg
 obtain ⟨hF, hk⟩ := h.full.set (z := v) h.len h.hy h.hg (Or.inr hb) i0 i1
 have e : k.st s (b + 1 + i) v = { s with ws := s.ws.set (b + 1 + i).toNat v } := by
  unfold Ck.st
  rw [if_pos hi]
 have hk2 : ∀ c ∈ G, k.ld (k.st s (b + 1 + i) v) c = k.ld s c := fun c hc => by
  rw [e]
  exact hk c (Or.inr hc)
 have hld : ∀ c ∈ G, ∀ j, 0 <= j -> j < pf (k.ld s c) -> k.ld (k.st s (b + 1 + i) v) (c + 1 + j) = if (b + 1 + i).toNat = (c + 1 + j).toNat then v else k.ld s (c + 1 + j) := fun c hc j j0 j1 => by
  have hj := field_i h.full (Or.inr hc) j0 j1
  rw [e]
  show ld k.N k.y s.g (s.ws.set (b + 1 + i).toNat v) (c + 1 + j) = if _ then v else ld k.N k.y s.g s.ws (c + 1 + j)
  have hl := h.len
  rw [ld_in hj, ld_in hj, getD_set _ _ _ _ (by omega)]
 refine ⟨⟨by rw [e]; exact hF, by rw [e]; show (List.set _ _ _).length = _; rw [List.length_set]; exact h.len, h.hy, by rw [e]; exact h.hg, fun c hc j j0 j1 => ?_, fun c hc j j0 j1 => ?_⟩, hk2⟩
 ·rw [hk2 c hc] at j1
  rw [hld c hc j j0 j1]
  by_cases q : (b + 1 + i).toNat = (c + 1 + j).toNat
  ·rw [if_pos q]
   exact Or.inl hv
  ·rw [if_neg q]
   exact (h.fd c hc j j0 j1).imp id (fun p => ⟨p, fun ⟨x1, x2⟩ => q (by rw [x1, x2])⟩)
 ·rw [hk2 c hc] at j1
  rw [hld c hc j j0 j1]
  by_cases q : (b + 1 + i).toNat = (c + 1 + j).toNat
  ·rw [if_pos q]
   exact fun _ => hv
  ·rw [if_neg q]
   exact h.fy c hc j j0 j1
theorem Fin1.imp {Q : Int -> Int -> Prop} (h : Fin1 k G P s) (hp : ∀ b i, P b i -> Q b i) : Fin1 k G Q s := ⟨h.full, h.len, h.hy, h.hg, fun b hb i i0 i1 => (h.fd b hb i i0 i1).imp id (hp b i), h.fy⟩
theorem Gd.gone : Gd k G 3 := fun h => absurd h (by decide)
theorem Fin1.told (h : Fin1 k G P s) (hN : k.N <= 256) (hO : k.O <= 1024) {n : Int} (hn : n ∈ G) : Gd k G (ew 3 n) := fun _ => by
 have hb := h.full.io n hn
 have hg := h.hg
 have hy := h.hy
 obtain ⟨m, rfl⟩ : ∃ m : Nat, n = m := ⟨n.toNat, by omega⟩
 obtain ⟨e1, e2⟩ := ew_at m (by omega)
 refine ⟨?_, by rw [e2]; exact hn⟩
 unfold Ck.yg
 rw [e1, e2]
 simp only [Bool.true_and]
 cases hc : k.T.contains (m : Int)
 ·rfl
 ·have h1 : (m : Int) ∈ k.T := by simpa using hc
  have := h.full.iy _ h1
  omega
theorem Fin1.mw (hN : k.N <= 256) (hO : k.O <= 1024) : ∀ (l : List Int) {P : Int -> Int -> Prop} {s : Cs}, Fin1 k G P s -> (∀ a ∈ l, a ∈ G /\ pk (k.ld s a) = 3) -> (∀ a ∈ k.T, s.f a ≠ -1 -> s.f a ∈ G) -> Fin1 k G (fun b i => P b i /\ ¬ (b ∈ l /\ i = 0)) (l.foldl k.mw1 s) /\ (∀ c ∈ G, k.ld (l.foldl k.mw1 s) c = k.ld s c) /\ (l.foldl k.mw1 s).g = s.g /\ (l.foldl k.mw1 s).rs = s.rs /\ (l.foldl k.mw1 s).ep = s.ep
 | [], P, s, h, _, _ => ⟨h.imp (fun b i p => ⟨p, fun ⟨d, _⟩ => by cases d⟩), fun _ _ => rfl, rfl, rfl, rfl⟩
 | a :: l, P, s, h, hl, hf => by
  rw [List.foldl_cons]
  obtain ⟨ha, h3⟩ := hl a (by simp)
  have f2 := pf_two (h.full.to.mem a ha).2.2 (Or.inr (Or.inl h3))
  have f2 : pf (k.ld s a) = 2 := f2
  have x1 : a + 1 + 0 = a + 1 := by omega
  have fy := h.fy a ha 0 (by omega) (by omega)
  rw [x1] at fy
  obtain ⟨v, ev, hv⟩ : ∃ v, k.mw1 s a = k.st s (a + 1) v /\ Gd k G v := by
   unfold Ck.mw1
   cases hls : k.ls s (k.ld s (a + 1))
   ·refine ⟨k.nw s (k.ld s (a + 1)), by rw [if_neg (by simp)], ?_⟩
    cases hy : k.yg (k.ld s (a + 1))
    ·have e : k.nw s (k.ld s (a + 1)) = k.ld s (a + 1) := by
      unfold Ck.nw
      rw [hy]
      rfl
     rw [e]
     exact fy hy
    ·unfold Ck.ls at hls
     rw [hy, Bool.true_and] at hls
     have e : k.nw s (k.ld s (a + 1)) = ew 3 (s.f (aV (k.ld s (a + 1)))) := by
      unfold Ck.nw
      rw [hy, hls]
      rfl
     rw [e]
     unfold Ck.yg at hy
     rw [Bool.and_eq_true] at hy
     exact h.told hN hO (hf _ (by simpa using hy.2) (by simpa using hls))
   ·exact ⟨3, by rw [if_pos rfl], Gd.gone⟩
  obtain ⟨m1, m2⟩ := h.st ha (i := 0) (by omega) (by omega) hv
  rw [x1] at m1 m2
  rw [ev]
  obtain ⟨j1, j2, j3, j4, j5⟩ := Fin1.mw hN hO l m1 (fun c hc => by
   obtain ⟨n1, n2⟩ := hl c (List.mem_cons_of_mem _ hc)
   exact ⟨n1, by rw [m2 c n1]; exact n2⟩) hf
  refine ⟨j1.imp (fun b i ⟨⟨p1, p2⟩, p3⟩ => ⟨p1, fun ⟨d1, d2⟩ => ?_⟩), fun c hc => (j2 c hc).trans (m2 c hc), j3, j4, j5⟩
  rcases List.mem_cons.1 d1 with d | d
  ·exact p2 ⟨d, d2⟩
  ·exact p3 ⟨d, d2⟩
end
end Go.Proofs.YtalgochmjddodaaGreat

namespace Go.Proofs.YtalgochmjddodaaGreat
open Go.RowKit W Kp Stl
section
variable {k : Ck} {G : List Int}
theorem Fin1.be : ∀ (l : List Int) {P : Int -> Int -> Prop} {s : Cs}, Fin1 k G P s -> (∀ a ∈ l, a ∈ G /\ pk (k.ld s a) = 4) -> Fin1 k G (fun b i => P b i /\ ¬ (b ∈ l /\ (i = 0 \/ i = 1))) (l.foldl k.be1 s) /\ (∀ c ∈ G, k.ld (l.foldl k.be1 s) c = k.ld s c) /\ (l.foldl k.be1 s).g = s.g /\ (l.foldl k.be1 s).rs = s.rs
 | [], P, s, h, _ => ⟨h.imp (fun b i p => ⟨p, fun ⟨d, _⟩ => by cases d⟩), fun _ _ => rfl, rfl, rfl⟩
 | a :: l, P, s, h, hl => by
  rw [List.foldl_cons]
  obtain ⟨ha, h4⟩ := hl a (by simp)
  have f2 : pf (k.ld s a) = 2 := pf_two (h.full.to.mem a ha).2.2 (Or.inr (Or.inr h4))
  have x1 : a + 1 + 0 = a + 1 := by omega
  have x2 : a + 1 + 1 = a + 2 := by omega
  obtain ⟨m1, m2⟩ := h.st ha (i := 0) (v := 3) (by omega) (by omega) Gd.gone
  rw [x1] at m1 m2
  obtain ⟨n1, n2⟩ := m1.st ha (i := 1) (v := 3) (by omega) (by rw [m2 a ha]; omega) Gd.gone
  rw [x2] at n1 n2
  obtain ⟨j1, j2, j3, j4⟩ := Fin1.be l n1 (fun c hc => by
   obtain ⟨q1, q2⟩ := hl c (List.mem_cons_of_mem _ hc)
   exact ⟨q1, by rw [n2 c q1, m2 c q1]; exact q2⟩)
  refine ⟨j1.imp (fun b i ⟨⟨⟨p1, p2⟩, p3⟩, p4⟩ => ⟨p1, fun ⟨d1, d2⟩ => ?_⟩), fun c hc => ((j2 c hc).trans (n2 c hc)).trans (m2 c hc), j3, j4⟩
  rcases List.mem_cons.1 d1 with d | d
  ·rcases d2 with d2 | d2
   ·exact p2 ⟨d, d2⟩
   ·exact p3 ⟨d, d2⟩
  ·exact p4 ⟨d, d2⟩
theorem ld_old {N y g : Nat} {ws : List Int} {a : Int} (ha : (N : Int) <= a) (hy : y <= N) : ld N 0 g ws a = ld N y g ws a := by
 have e : iB N 0 g a = iB N y g a := by
  unfold iB hB
  have h1 : decide ((0 : Int) <= a /\ a < 0 + ((0 : Nat) : Int)) = false := decide_eq_false (by omega)
  have h2 : decide ((0 : Int) <= a /\ a < 0 + (y : Int)) = false := decide_eq_false (by omega)
  rw [h1, h2]
 unfold ld
 rw [e]
theorem Fin1.done {s : Cs} {rs : List Int} (h : Fin1 k G (fun _ _ => False) s) (hr : ∀ x ∈ rs, Gd k G x) : WInv k.N 0 s.g s.ws [] G rs := by
 have io := h.full.io
 have eq : ∀ a, (k.N : Int) <= a -> ld k.N 0 s.g s.ws a = ld k.N k.y s.g s.ws a := fun a ha => ld_old ha h.hy
 refine ⟨⟨by simpa using Tile.done (L := ld k.N 0 s.g s.ws) (hi := (0 : Int)), h.full.to.heads (fun x hx => eq x (io x hx).1)⟩, fun x hx ha => Or.inr (hr x hx ha).2, fun v hv i i0 i1 ha => ?_⟩
 rcases hv with d | d
 ·cases d
 ·have hv := io v d
  rw [eq v hv.1] at i1
  rw [eq (v + 1 + i) (by omega)] at ha ⊢
  exact Or.inr (((h.fd v d i i0 i1).resolve_right id) ha).2
end
end Go.Proofs.YtalgochmjddodaaGreat
