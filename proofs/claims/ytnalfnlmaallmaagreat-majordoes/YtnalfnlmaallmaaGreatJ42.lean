/- Joined: Mn24, Mn25, Mn26, Mn27, Mn28, Mn29, Mk4. -/
import Derived.Test.YtnalfnlmaallmaaGreatJ41
import Derived.Test.YtnalfnlmaallmaaGreatJ22
import Derived.Test.YtnalfnlmaallmaaGreatJ36
namespace Go.Proofs.YtnalfnlmaallmaaGreat
open Go.RowKit W Kp Stl
section
variable {k : Ck} {z : C0} {s t : Cs} {H K D : List Int}
theorem WE.lb1 (w : WE k z s H) (h : LI k z s H D) (hn : hB k.N s.g s.nx = true) (ht : MI k z { k.lk s s.nx with nx := s.nx + (1 + pf (k.ld s s.nx)) } K) (p : Pg k s { k.lk s s.nx with nx := s.nx + (1 + pf (k.ld s s.nx)) }) (hK : ∃ H2, K = H ++ H2) : WE k z { k.lk s s.nx with nx := s.nx + (1 + pf (k.ld s s.nx)) } K := by
 have hb := hB_yes hn
 have hnx : s.nx ∈ H := h.bo.resolve_right (by omega)
 obtain ⟨x1, _⟩ := lk_nx k s s.nx
 have m : MI k z (k.lk s s.nx) K := ht.turn (k.lk s s.nx).wk (k.lk s s.nx).ep (k.lk s s.nx).rs (k.lk s s.nx).nx ht.ci.wk0 ht.ci.ep0 (by rw [x1]; exact h.mi.ci.nx0) (by rw [x1]; exact h.mi.ci.nx1)
 have w2 := w.lk h.mi (List.mem_append_right z.G hnx) m ⟨p.f, p.g, p.cl⟩ hK
 exact ⟨w2.wk, w2.ep⟩
theorem LI.lbw : ∀ (n : Nat) {s : Cs} {H : List Int}, LI k z s H D -> WE k z s H -> ∃ H', LI k z (k.lb n s) H' D /\ WE k z (k.lb n s) H' /\ Pg k s (k.lb n s) /\ (∃ H2, H' = H ++ H2) /\ (((k.N : Int) + k.O - s.nx).toNat < n -> hB k.N (k.lb n s).g (k.lb n s).nx = false)
 | 0, s, H, h, w => ⟨H, h, w, Pg.refl _ _, ⟨[], by simp⟩, fun e => absurd e (by omega)⟩
 | n + 1, s, H, h, w => by
  unfold Ck.lb
  cases hn : hB k.N s.g s.nx
  ·rw [if_neg (by simp)]
   exact ⟨H, h, w, Pg.refl _ _, ⟨[], by simp⟩, fun _ => hn⟩
  ·rw [if_pos rfl]
   obtain ⟨H1, m1, m2, m3⟩ := h.lb1 hn
   have w1 := w.lb1 h hn m1.mi m2 m3
   obtain ⟨H2, m3⟩ := m3
   obtain ⟨H3, j1, jw, j2, ⟨H4, j3⟩, j4⟩ := LI.lbw n m1 w1
   refine ⟨H3, j1, jw, m2.trans j2, ⟨H2 ++ H4, by rw [j3, m3, List.append_assoc]⟩, fun e => j4 ?_⟩
   have hpf := pf_bd (k.ld s s.nx)
   have hb := hB_yes hn
   have hg := h.mi.ci.hg
   dsimp only
   omega
theorem Lo.ep {b : Int} (l : Lo k t b) (e : List Int) (hc : b ∈ t.ep -> b ∈ e \/ (k.yg (k.ld t (b + 1)) = false /\ k.yg (k.ld t (b + 2)) = false)) (h2 : pk (k.ld t b) = 4 -> pf (k.ld t b) = 2) : Lo k { t with ep := e } b := by
 intro i i0 i1
 have i2 : i < pf (k.ld t b) := i1
 rcases l i i0 i2 with d | d | ⟨d1, d2⟩
 ·exact Or.inl d
 ·exact Or.inr (Or.inl d)
 ·rcases hc d2 with c | ⟨c1, c2⟩
  ·exact Or.inr (Or.inr ⟨d1, c⟩)
  ·have f2 := h2 d1
   left
   show k.yg (k.ld t (b + 1 + i)) = false
   rcases (by omega : i = 0 \/ i = 1) with e | e
   ·rw [e, show b + 1 + 0 = b + 1 by omega]
    exact c1
   ·rw [e, show b + 1 + 1 = b + 2 by omega]
    exact c2
theorem LI.kv (h : LI k z s H D) (w : WE k z s H) : ∃ H', LI k z (k.kv s).2 H' D /\ WE k z (k.kv s).2 H' /\ Pg k s (k.kv s).2 /\ ∃ H2, H' = H ++ H2 := by
 obtain ⟨H', j1, j2, j3, j4, j5, j6, _, j8⟩ := LI.kvf s.ep [] h w.ep
 unfold Ck.kv Ck.kvf
 dsimp only
 have sub : ∀ a ∈ (s.ep.foldl k.kv1 ([], s)).1, a ∈ s.ep := fun a ha => (j8 a ha).elim (fun d => by cases d) id
 have mt := j1.mi.turn (s.ep.foldl k.kv1 ([], s)).2.wk (s.ep.foldl k.kv1 ([], s)).1 (s.ep.foldl k.kv1 ([], s)).2.rs (s.ep.foldl k.kv1 ([], s)).2.nx j1.mi.ci.wk0 (fun a ha => h.mi.ci.ep0 a (sub a ha)) j1.mi.ci.nx0 j1.mi.ci.nx1
 have w2 := w.go h.mi j1.mi j2 j3 j4 j5
 have cl : ∀ b, b ∈ (s.ep.foldl k.kv1 ([], s)).2.ep -> b ∈ (s.ep.foldl k.kv1 ([], s)).1 \/ (k.yg (k.ld (s.ep.foldl k.kv1 ([], s)).2 (b + 1)) = false /\ k.yg (k.ld (s.ep.foldl k.kv1 ([], s)).2 (b + 2)) = false) := fun b hb => j6 b (by rw [<- j5]; exact hb)
 have two : ∀ b, b ∈ z.G ++ H' -> pk (k.ld (s.ep.foldl k.kv1 ([], s)).2 b) = 4 -> pf (k.ld (s.ep.foldl k.kv1 ([], s)).2 b) = 2 := fun b hb e => pf_two (j1.mi.bd hb).2.2 (Or.inr (Or.inr e))
 refine ⟨H', ⟨mt, j1.bo, fun b d lt => ?_, fun b d => ?_, j1.dg⟩, ⟨w2.wk, fun a ha => w2.ep a (by rw [j5]; exact sub a ha)⟩, ⟨j2.f, j2.g, j2.cl⟩, j3⟩
 ·exact (j1.lo b d lt).ep _ (cl b) (two b (List.mem_append_right _ d))
 ·exact (j1.ld b d).ep _ (cl b) (two b (List.mem_append_left _ (j1.dg b d)))
end
end Go.Proofs.YtnalfnlmaallmaaGreat

namespace Go.Proofs.YtnalfnlmaallmaaGreat
open Go.RowKit W Kp Stl
def Ru (k : Ck) (z : C0) (D : List Int) (s t : Cs) : Prop := ∀ H, LI k z s H D -> WE k z s H -> ∃ H', LI k z t H' D /\ WE k z t H' /\ Pg k s t /\ ∃ H2, H' = H ++ H2
section
variable {k : Ck} {z : C0} {s t u : Cs} {D : List Int}
theorem Ru.refl : Ru k z D s s := fun H h w => ⟨H, h, w, Pg.refl _ _, ⟨[], by simp⟩⟩
theorem Ru.trans (h : Ru k z D s t) (j : Ru k z D t u) : Ru k z D s u := fun H l w => by
 obtain ⟨H1, m1, m2, m3, ⟨A, m4⟩⟩ := h H l w
 obtain ⟨H3, j1, j2, j3, ⟨B, j4⟩⟩ := j H1 m1 m2
 exact ⟨H3, j1, j2, m3.trans j3, ⟨A ++ B, by rw [j4, m4, List.append_assoc]⟩⟩
theorem Ru.br (x : Int) : Ru k z D s (k.br s x).2 := fun _ h w => by
 obtain ⟨H', m1, m2, m3, _, _⟩ := h.br x
 obtain ⟨_, e1, e2, _⟩ := br_rs k s x
 exact ⟨H', m1, w.go h.mi m1.mi m2 m3 e1 e2, m2, m3⟩
theorem Ru.lb (n : Nat) : Ru k z D s (k.lb n s) := fun _ h w => by
 obtain ⟨H', m1, m2, m3, m4, _⟩ := LI.lbw n h w
 exact ⟨H', m1, m2, m3, m4⟩
theorem Ru.kv : Ru k z D s (k.kv s).2 := fun _ h w => h.kv w
theorem Ru.wkl : ∀ (l : List Nat) (t : (Cs × List En) × Bool), Ru k z D t.1.1 (l.foldl (wkP k.al k.br) t).1.1
 | [], t => Ru.refl
 | i :: l, t => by
  rw [List.foldl_cons]
  refine Ru.trans ?_ (Ru.wkl l _)
  unfold wkP
  split
  ·exact Ru.refl
  ·exact Ru.br _
theorem Ru.wa (t : Cs × List En) : Ru k z D t.1 (k.wa t).1.1 := Ru.wkl (List.range t.2.length) (t, false)
theorem Ru.spr : ∀ (n : Nat) (t : Cs × List En), Ru k z D t.1 (k.spr n t).1
 | 0, t => Ru.refl
 | n + 1, t => by
  have h1 : Ru k z D t.1 (k.kv (k.lb (k.O + 1) t.1)).2 := (Ru.lb (k.O + 1)).trans Ru.kv
  unfold Ck.spr
  split
  ·exact h1.trans (Ru.spr n ((k.kv (k.lb (k.O + 1) t.1)).2, t.2))
  ·split
   ·exact (h1.trans (Ru.wa ((k.kv (k.lb (k.O + 1) t.1)).2, t.2))).trans (Ru.spr n (k.wa ((k.kv (k.lb (k.O + 1) t.1)).2, t.2)).1)
   ·exact h1.trans (Ru.wa ((k.kv (k.lb (k.O + 1) t.1)).2, t.2))
theorem Ru.sp (t : Cs × List En) : Ru k z D t.1 (k.sp t).1 := Ru.spr _ t
theorem Ru.ke (t : Cs × List En) (x : Int) : Ru k z D t.1 (k.ke t x).2.1 := (Ru.br x).trans (Ru.sp ((k.br t.1 x).2, t.2))
theorem Ru.one (t : Cs × List En) (e : En) : Ru k z D t.1 (cm (noSd Cs) (fun s x => k.al s.1 x) k.ke t e).2.1 := by
 unfold cm
 split
 ·exact Ru.ke t e.2
 ·exact Ru.refl
theorem Ru.part (l : List En) (t : Cs × List En) : Ru k z D t.1 (pts (cm (noSd Cs) (fun s x => k.al s.1 x) k.ke) t l).2.2.1 := by
 have key : ∀ (l : List En) (p : List En × List En × (Cs × List En)), Ru k z D p.2.2.1 (l.foldl (pstep (cm (noSd Cs) (fun s x => k.al s.1 x) k.ke)) p).2.2.1 := by
  intro l
  induction l with
  | nil => exact fun p => Ru.refl
  | cons e l ih =>
   intro p
   rw [List.foldl_cons]
   refine Ru.trans ?_ (ih _)
   have h1 := Ru.one (k := k) (z := z) (D := D) p.2.2 e
   unfold pstep
   split
   ·exact h1
   ·exact h1
 exact key l ([], [], t)
theorem Ru.turn : ∀ (n : Nat) (t : Cs × List En) (d : List En), Ru k z D t.1 (trn (cm (noSd Cs) (fun s x => k.al s.1 x) k.ke) n t d).1.1
 | 0, t, d => Ru.refl
 | n + 1, t, d => by
  unfold trn
  split
  ·exact Ru.part d t
  ·exact (Ru.part d t).trans (Ru.turn n _ _)
theorem Ru.sS (t : Cs × List En) (r : List En) : Ru k z D t.1 (k.sS t r).1 := Ru.turn _ _ _
end
end Go.Proofs.YtnalfnlmaallmaaGreat

namespace Go.Proofs.YtnalfnlmaallmaaGreat
open Go.RowKit W Kp Stl
section
variable {k : Ck} {z : C0} {s t : Cs} {D : List Int}
theorem kvf_idle (k : Ck) : ∀ (l left : List Int) (s : Cs), (l.foldl k.kv1 (left, s)).1.length <= left.length + l.length /\ ((l.foldl k.kv1 (left, s)).1.length = left.length + l.length -> (l.foldl k.kv1 (left, s)).2 = s)
 | [], left, s => ⟨by simp, fun _ => rfl⟩
 | b :: l, left, s => by
  rw [List.foldl_cons]
  cases hls : k.ls s (k.ld s (b + 1))
  ·have e1 : k.kv1 (left, s) b = (left, k.kf (k.kf s (b + 1)) (b + 2)) := by
    unfold Ck.kv1
    rw [if_neg (by rw [hls]; simp)]
   rw [e1]
   have h1 := (kvf_idle k l left (k.kf (k.kf s (b + 1)) (b + 2))).1
   rw [List.length_cons]
   exact ⟨by omega, fun e => by omega⟩
  ·have e1 : k.kv1 (left, s) b = (left ++ [b], s) := by
    unfold Ck.kv1
    rw [if_pos hls]
   rw [e1]
   obtain ⟨h1, h2⟩ := kvf_idle k l (left ++ [b]) s
   rw [List.length_append, List.length_singleton] at h1 h2
   rw [List.length_cons]
   exact ⟨by omega, fun e => h2 (by omega)⟩
theorem kv_idle (k : Ck) (s : Cs) (h : (k.kv s).1 = false) : (k.kv s).2.g = s.g /\ (k.kv s).2.nx = s.nx := by
 unfold Ck.kv Ck.kvf at h ⊢
 dsimp only at h ⊢
 obtain ⟨h1, h2⟩ := kvf_idle k s.ep [] s
 have h3 := of_decide_eq_false h
 rw [List.length_nil, Nat.zero_add] at h1 h2
 rw [h2 (by omega)]
 exact ⟨rfl, rfl⟩
theorem wkl_idle (k : Ck) : ∀ (l : List Nat) (t : (Cs × List En) × Bool), (l.foldl (wkP k.al k.br) t).2 = false -> (l.foldl (wkP k.al k.br) t).1 = t.1 /\ t.2 = false
 | [], t, h => ⟨rfl, h⟩
 | i :: l, t, h => by
  rw [List.foldl_cons] at h ⊢
  obtain ⟨h1, h2⟩ := wkl_idle k l _ h
  unfold wkP at h1 h2 ⊢
  split at h2
  ·rename_i e
   rw [if_pos e] at h1 ⊢
   exact ⟨h1, h2⟩
  ·cases h2
theorem wa_idle (k : Ck) (t : Cs × List En) (h : (k.wa t).2 = false) : (k.wa t).1 = t := (wkl_idle k (List.range t.2.length) (t, false) h).1
theorem spr_end : ∀ (n : Nat) (t : Cs × List En) (H : List Int), LI k z t.1 H D -> WE k z t.1 H -> CB k t.1 -> k.mu t.1 < n -> hB k.N (k.spr n t).1.g (k.spr n t).1.nx = false
 | 0, t, H, _, _, _, e => absurd e (by omega)
 | n + 1, t, H, h, w, hb, e => by
  obtain ⟨H1, l1, w1, _, _, e1⟩ := LI.lbw (k.O + 1) h w
  have nx0 := h.mi.ci.nx0
  have hE := e1 (by omega)
  obtain ⟨c1, c2, c3⟩ := CI.lb h.mi.ci hb (k.O + 1)
  obtain ⟨d1, d2, d3, d4⟩ := CI.kv c1 c2
  obtain ⟨H2, l2, w2, _, _⟩ := l1.kv w1
  unfold Ck.spr
  cases hk : (k.kv (k.lb (k.O + 1) t.1)).1
  ·rw [if_neg (by simp)]
   obtain ⟨g1, g2⟩ := kv_idle k _ hk
   obtain ⟨f1, f2, f3, f4, f5⟩ := CI.wa (s := ((k.kv (k.lb (k.O + 1) t.1)).2, t.2)) d1 d2
   cases hw : (k.wa ((k.kv (k.lb (k.O + 1) t.1)).2, t.2)).2
   ·rw [if_neg (by simp), wa_idle k _ hw]
    dsimp only
    rw [g1, g2]
    exact hE
   ·rw [if_pos rfl]
    obtain ⟨H3, l3, w3, _, _⟩ := Ru.wa (k := k) (z := z) (D := D) ((k.kv (k.lb (k.O + 1) t.1)).2, t.2) H2 l2 w2
    have h5 := f5 hw
    dsimp only at h5
    exact spr_end n _ H3 l3 w3 f2 (by omega)
  ·rw [if_pos rfl]
   have h5 := d4 hk
   exact spr_end n ((k.kv (k.lb (k.O + 1) t.1)).2, t.2) H2 l2 w2 d2 (by dsimp only; omega)
end
end Go.Proofs.YtnalfnlmaallmaaGreat

namespace Go.Proofs.YtnalfnlmaallmaaGreat
open Go.RowKit W Kp Stl
section
variable {k : Ck} {z : C0} {s : Cs} {H D : List Int}
theorem LI.fields (h : LI k z s H D) (he : hB k.N s.g s.nx = false)
  (hz : ∀ v, (v ∈ k.T \/ v ∈ z.G) -> ∀ i, 0 <= i -> i < pf (k.l0 z v) -> aB (k.l0 z (v + 1 + i)) = true -> aV (k.l0 z (v + 1 + i)) ∈ k.T \/ aV (k.l0 z (v + 1 + i)) ∈ z.G)
  (hc : ∀ v ∈ z.G, v ∉ D -> ∀ i, 0 <= i -> i < pf (k.l0 z v) -> k.yg (k.l0 z (v + 1 + i)) = false)
  {b : Int} (hb : b ∈ z.G ++ H) {i : Int} (i0 : 0 <= i) (i1 : i < pf (k.ld s b)) (ha : aB (k.ld s (b + 1 + i)) = true) :
  aV (k.ld s (b + 1 + i)) ∈ z.G ++ H \/ (pk (k.ld s b) = 3 /\ i = 0 /\ b ∈ s.wk) \/ (pk (k.ld s b) = 4 /\ b ∈ s.ep) := by
 obtain ⟨a, o⟩ := h.mi.from hb
 have e0 := h.mi.hd a b o
 rw [e0] at i1
 have hm := h.mi.fd a b o i i0 i1
 have haT : a ∈ k.T \/ a ∈ z.G := by
  rcases o with ⟨e, d⟩ | ⟨d, _⟩
  ·exact Or.inr (by rw [e]; exact d)
  ·exact Or.inl d
 have hnx : s.nx = (k.N : Int) + s.g := by
  rcases h.bo with d | d
  ·have h1 := h.mi.bdH d
   unfold hB at he
   have := of_decide_eq_false he
   omega
  ·exact d
 -- not young now: it leads to an old thing
 have key : k.yg (k.ld s (b + 1 + i)) = false -> aV (k.ld s (b + 1 + i)) ∈ z.G ++ H := fun hy => by
  rcases hm with e | ⟨g1, g2, g3⟩
  ·rw [e] at ha hy ⊢
   rcases hz a haT i i0 i1 ha with d | d
   ·unfold Ck.yg at hy
    rw [ha] at hy
    simp at hy
    exact absurd d hy
   ·exact List.mem_append_left _ d
  ·have hT : aV (k.l0 z (a + 1 + i)) ∈ k.T := by
    unfold Ck.yg at g1
    rw [Bool.and_eq_true] at g1
    simpa using g1.2
   have hH := h.mi.fh _ hT g2
   have hbd := h.mi.bdH hH
   have hN := h.mi.ci.hN'
   have hO := h.mi.ci.hO
   have hg := h.mi.ci.hg
   obtain ⟨n, hn⟩ : ∃ n : Nat, s.f (aV (k.l0 z (a + 1 + i))) = n := ⟨(s.f (aV (k.l0 z (a + 1 + i)))).toNat, by omega⟩
   rw [g3, hn, (ew_at n (by omega)).2, <- hn]
   exact List.mem_append_right _ hH
 rcases List.mem_append.1 hb with d | d
 ·by_cases hD : b ∈ D
  ·rcases h.ld b hD i i0 (by rw [e0]; exact i1) with c | c | c
   ·exact Or.inl (key c)
   ·exact Or.inr (Or.inl c)
   ·exact Or.inr (Or.inr c)
  ·have ea : a = b := by
    rcases o with ⟨e, _⟩ | ⟨o1, o2, o3⟩
    ·exact e
    ·have h1 := h.mi.hlo b (by rw [<- o2]; exact h.mi.fh a o1 (by rw [o2]; exact o3))
     have h2 := h.mi.zh b d
     omega
   subst ea
   have hy := hc a d hD i i0 i1
   refine Or.inl (key ?_)
   rcases hm with e | ⟨g1, _⟩
   ·rw [e]; exact hy
   ·rw [hy] at g1
    cases g1
 ·rcases h.lo b d (by rw [hnx]; exact (h.mi.bdH d).2) i i0 (by rw [e0]; exact i1) with c | c | c
  ·exact Or.inl (key c)
  ·exact Or.inr (Or.inl c)
  ·exact Or.inr (Or.inr c)
end
end Go.Proofs.YtnalfnlmaallmaaGreat

namespace Go.Proofs.YtnalfnlmaallmaaGreat
open Go.RowKit W Kp Stl
def Gd (k : Ck) (G : List Int) (x : Int) : Prop := aB x = true -> k.yg x = false /\ aV x ∈ G
structure Fin1 (k : Ck) (G : List Int) (P : Int -> Int -> Prop) (s : Cs) : Prop where
  full : Full2 k.N k.y s.g s.ws k.T G
  len : s.ws.length = k.N + k.O
  hy : k.y <= k.N
  hg : s.g <= k.O
  fd : ∀ b ∈ G, ∀ i, 0 <= i -> i < pf (k.ld s b) -> Gd k G (k.ld s (b + 1 + i)) \/ P b i
  fy : ∀ b ∈ G, ∀ i, 0 <= i -> i < pf (k.ld s b) -> k.yg (k.ld s (b + 1 + i)) = false -> Gd k G (k.ld s (b + 1 + i))
section
variable {k : Ck} {G : List Int} {P : Int -> Int -> Prop} {s : Cs}
theorem Fin1.st (h : Fin1 k G P s) {b i v : Int} (hb : b ∈ G) (i0 : 0 <= i) (i1 : i < pf (k.ld s b)) (hv : Gd k G v) : Fin1 k G (fun c j => P c j /\ ¬ (c = b /\ j = i)) (k.st s (b + 1 + i) v) /\ ∀ c ∈ G, k.ld (k.st s (b + 1 + i) v) c = k.ld s c := by
 have hi := field_i h.full (Or.inr hb) i0 i1
 have hbd := iB_bd (O := k.O) hi h.hy h.hg
 obtain ⟨hF, hk⟩ := h.full.set (z := v) h.len h.hy h.hg (Or.inr hb) i0 i1
 have e : k.st s (b + 1 + i) v = { s with ws := s.ws.set (b + 1 + i).toNat v } := by
  unfold Ck.st
  rw [if_pos hi]
 have hk2 : ∀ c ∈ G, k.ld (k.st s (b + 1 + i) v) c = k.ld s c := fun c hc => by
  rw [e]
  exact hk c (Or.inr hc)
 have hld : ∀ c ∈ G, ∀ j, 0 <= j -> j < pf (k.ld s c) -> k.ld (k.st s (b + 1 + i) v) (c + 1 + j) = if (b + 1 + i).toNat = (c + 1 + j).toNat then v else k.ld s (c + 1 + j) := fun c hc j j0 j1 => by
  have hj := field_i h.full (Or.inr hc) j0 j1
  rw [e]
  show ld k.N k.y s.g (s.ws.set (b + 1 + i).toNat v) (c + 1 + j) = if _ then v else ld k.N k.y s.g s.ws (c + 1 + j)
  have hl := h.len
  rw [ld_in hj, ld_in hj, getD_set _ _ _ _ (by omega)]
 refine ⟨⟨by rw [e]; exact hF, by rw [e]; show (List.set _ _ _).length = _; rw [List.length_set]; exact h.len, h.hy, by rw [e]; exact h.hg, fun c hc j j0 j1 => ?_, fun c hc j j0 j1 => ?_⟩, hk2⟩
 ·rw [hk2 c hc] at j1
  rw [hld c hc j j0 j1]
  by_cases q : (b + 1 + i).toNat = (c + 1 + j).toNat
  ·rw [if_pos q]
   exact Or.inl hv
  ·rw [if_neg q]
   exact (h.fd c hc j j0 j1).imp id (fun p => ⟨p, fun ⟨x1, x2⟩ => q (by rw [x1, x2])⟩)
 ·rw [hk2 c hc] at j1
  rw [hld c hc j j0 j1]
  by_cases q : (b + 1 + i).toNat = (c + 1 + j).toNat
  ·rw [if_pos q]
   exact fun _ => hv
  ·rw [if_neg q]
   exact h.fy c hc j j0 j1
theorem Fin1.imp {Q : Int -> Int -> Prop} (h : Fin1 k G P s) (hp : ∀ b i, P b i -> Q b i) : Fin1 k G Q s := ⟨h.full, h.len, h.hy, h.hg, fun b hb i i0 i1 => (h.fd b hb i i0 i1).imp id (hp b i), h.fy⟩
theorem Gd.gone : Gd k G 3 := fun h => absurd h (by decide)
theorem Fin1.told (h : Fin1 k G P s) (hN : k.N <= 256) (hO : k.O <= 1024) {n : Int} (hn : n ∈ G) : Gd k G (ew 3 n) := fun _ => by
 have hb := h.full.io n hn
 have hg := h.hg
 have hy := h.hy
 obtain ⟨m, rfl⟩ : ∃ m : Nat, n = m := ⟨n.toNat, by omega⟩
 obtain ⟨e1, e2⟩ := ew_at m (by omega)
 refine ⟨?_, by rw [e2]; exact hn⟩
 unfold Ck.yg
 rw [e1, e2]
 simp only [Bool.true_and]
 cases hc : k.T.contains (m : Int)
 ·rfl
 ·have h1 : (m : Int) ∈ k.T := by simpa using hc
  have := h.full.iy _ h1
  omega
theorem Fin1.mw (hN : k.N <= 256) (hO : k.O <= 1024) : ∀ (l : List Int) {P : Int -> Int -> Prop} {s : Cs}, Fin1 k G P s -> (∀ a ∈ l, a ∈ G /\ pk (k.ld s a) = 3) -> (∀ a ∈ k.T, s.f a ≠ -1 -> s.f a ∈ G) -> Fin1 k G (fun b i => P b i /\ ¬ (b ∈ l /\ i = 0)) (l.foldl k.mw1 s) /\ (∀ c ∈ G, k.ld (l.foldl k.mw1 s) c = k.ld s c) /\ (l.foldl k.mw1 s).g = s.g /\ (l.foldl k.mw1 s).rs = s.rs /\ (l.foldl k.mw1 s).ep = s.ep
 | [], P, s, h, _, _ => ⟨h.imp (fun b i p => ⟨p, fun ⟨d, _⟩ => by cases d⟩), fun _ _ => rfl, rfl, rfl, rfl⟩
 | a :: l, P, s, h, hl, hf => by
  rw [List.foldl_cons]
  obtain ⟨ha, h3⟩ := hl a (by simp)
  have f2 := pf_two (h.full.to.mem a ha).2.2 (Or.inr (Or.inl h3))
  have f2 : pf (k.ld s a) = 2 := f2
  have x1 : a + 1 + 0 = a + 1 := by omega
  have fy := h.fy a ha 0 (by omega) (by omega)
  rw [x1] at fy
  obtain ⟨v, ev, hv⟩ : ∃ v, k.mw1 s a = k.st s (a + 1) v /\ Gd k G v := by
   unfold Ck.mw1
   cases hls : k.ls s (k.ld s (a + 1))
   ·refine ⟨k.nw s (k.ld s (a + 1)), by rw [if_neg (by simp)], ?_⟩
    cases hy : k.yg (k.ld s (a + 1))
    ·have e : k.nw s (k.ld s (a + 1)) = k.ld s (a + 1) := by
      unfold Ck.nw
      rw [hy]
      rfl
     rw [e]
     exact fy hy
    ·unfold Ck.ls at hls
     rw [hy, Bool.true_and] at hls
     have e : k.nw s (k.ld s (a + 1)) = ew 3 (s.f (aV (k.ld s (a + 1)))) := by
      unfold Ck.nw
      rw [hy, hls]
      rfl
     rw [e]
     unfold Ck.yg at hy
     rw [Bool.and_eq_true] at hy
     exact h.told hN hO (hf _ (by simpa using hy.2) (by simpa using hls))
   ·exact ⟨3, by rw [if_pos rfl], Gd.gone⟩
  obtain ⟨m1, m2⟩ := h.st ha (i := 0) (by omega) (by omega) hv
  rw [x1] at m1 m2
  rw [ev]
  obtain ⟨j1, j2, j3, j4, j5⟩ := Fin1.mw hN hO l m1 (fun c hc => by
   obtain ⟨n1, n2⟩ := hl c (List.mem_cons_of_mem _ hc)
   exact ⟨n1, by rw [m2 c n1]; exact n2⟩) hf
  refine ⟨j1.imp (fun b i ⟨⟨p1, p2⟩, p3⟩ => ⟨p1, fun ⟨d1, d2⟩ => ?_⟩), fun c hc => (j2 c hc).trans (m2 c hc), j3, j4, j5⟩
  rcases List.mem_cons.1 d1 with d | d
  ·exact p2 ⟨d, d2⟩
  ·exact p3 ⟨d, d2⟩
end
end Go.Proofs.YtnalfnlmaallmaaGreat

namespace Go.Proofs.YtnalfnlmaallmaaGreat
open Go.RowKit W Kp Stl
section
variable {k : Ck} {G : List Int}
theorem Fin1.be : ∀ (l : List Int) {P : Int -> Int -> Prop} {s : Cs}, Fin1 k G P s -> (∀ a ∈ l, a ∈ G /\ pk (k.ld s a) = 4) -> Fin1 k G (fun b i => P b i /\ ¬ (b ∈ l /\ (i = 0 \/ i = 1))) (l.foldl k.be1 s) /\ (∀ c ∈ G, k.ld (l.foldl k.be1 s) c = k.ld s c) /\ (l.foldl k.be1 s).g = s.g /\ (l.foldl k.be1 s).rs = s.rs
 | [], P, s, h, _ => ⟨h.imp (fun b i p => ⟨p, fun ⟨d, _⟩ => by cases d⟩), fun _ _ => rfl, rfl, rfl⟩
 | a :: l, P, s, h, hl => by
  rw [List.foldl_cons]
  obtain ⟨ha, h4⟩ := hl a (by simp)
  have f2 : pf (k.ld s a) = 2 := pf_two (h.full.to.mem a ha).2.2 (Or.inr (Or.inr h4))
  have x1 : a + 1 + 0 = a + 1 := by omega
  have x2 : a + 1 + 1 = a + 2 := by omega
  obtain ⟨m1, m2⟩ := h.st ha (i := 0) (v := 3) (by omega) (by omega) Gd.gone
  rw [x1] at m1 m2
  obtain ⟨n1, n2⟩ := m1.st ha (i := 1) (v := 3) (by omega) (by rw [m2 a ha]; omega) Gd.gone
  rw [x2] at n1 n2
  obtain ⟨j1, j2, j3, j4⟩ := Fin1.be l n1 (fun c hc => by
   obtain ⟨q1, q2⟩ := hl c (List.mem_cons_of_mem _ hc)
   exact ⟨q1, by rw [n2 c q1, m2 c q1]; exact q2⟩)
  refine ⟨j1.imp (fun b i ⟨⟨⟨p1, p2⟩, p3⟩, p4⟩ => ⟨p1, fun ⟨d1, d2⟩ => ?_⟩), fun c hc => ((j2 c hc).trans (n2 c hc)).trans (m2 c hc), j3, j4⟩
  rcases List.mem_cons.1 d1 with d | d
  ·rcases d2 with d2 | d2
   ·exact p2 ⟨d, d2⟩
   ·exact p3 ⟨d, d2⟩
  ·exact p4 ⟨d, d2⟩
theorem ld_old {N y g : Nat} {ws : List Int} {a : Int} (ha : (N : Int) <= a) (hy : y <= N) : ld N 0 g ws a = ld N y g ws a := by
 have e : iB N 0 g a = iB N y g a := by
  unfold iB hB
  have h1 : decide ((0 : Int) <= a /\ a < 0 + ((0 : Nat) : Int)) = false := decide_eq_false (by omega)
  have h2 : decide ((0 : Int) <= a /\ a < 0 + (y : Int)) = false := decide_eq_false (by omega)
  rw [h1, h2]
 unfold ld
 rw [e]
theorem Fin1.done {s : Cs} {rs : List Int} (h : Fin1 k G (fun _ _ => False) s) (hr : ∀ x ∈ rs, Gd k G x) : WInv k.N 0 s.g s.ws [] G rs := by
 have io := h.full.io
 have eq : ∀ a, (k.N : Int) <= a -> ld k.N 0 s.g s.ws a = ld k.N k.y s.g s.ws a := fun a ha => ld_old ha h.hy
 refine ⟨⟨by simpa using Tile.done (L := ld k.N 0 s.g s.ws) (hi := (0 : Int)), h.full.to.heads (fun x hx => eq x (io x hx).1)⟩, fun x hx ha => Or.inr (hr x hx ha).2, fun v hv i i0 i1 ha => ?_⟩
 rcases hv with d | d
 ·cases d
 ·have hv := io v d
  rw [eq v hv.1] at i1
  rw [eq (v + 1 + i) (by omega)] at ha ⊢
  exact Or.inr (((h.fd v d i i0 i1).resolve_right id) ha).2
end
end Go.Proofs.YtnalfnlmaallmaaGreat

namespace Go.Proofs.YtnalfnlmaallmaaGreat
open Go.RowKit W Kp Stl
theorem spl_get (ws : List Int) (t f n i : Nat) (h1 : t + n <= ws.length) (h2 : f + n <= ws.length) :
  (splice ws t ((ws.drop f).take n)).getD i 0 = if t <= i /\ i < t + n then ws.getD (f + i - t) 0 else ws.getD i 0 := by
 have hl : ((ws.drop f).take n).length = n := by simp; omega
 unfold splice
 rw [hl]
 simp only [List.getD_eq_getElem?_getD]
 by_cases c : i < t
 ·rw [List.getElem?_append_left (by simp; omega), if_neg (by omega), List.getElem?_take_of_lt c]
 ·have e1 : (ws.take t).length = t := by simp; omega
  rw [List.getElem?_append_right (by omega), e1]
  by_cases c2 : i < t + n
  ·rw [if_pos (by omega), List.getElem?_append_left (by omega), List.getElem?_take_of_lt (by omega), List.getElem?_drop, show f + (i - t) = f + i - t by omega]
  ·rw [if_neg (by omega), List.getElem?_append_right (by omega), hl, List.getElem?_drop, show t + n + (i - t - n) = i by omega]
theorem jmov_ld (k : Jk) (hl : k.s.ws.length = k.a.N + k.a.O) (hy : k.s.y <= k.a.N) (hg : k.s.g <= k.a.O) (t f n : Nat) (t0 : k.a.N <= t) (t1 : t + n <= k.a.N + k.s.g) (f0 : k.a.N <= f) (f1 : f + n <= k.a.N + k.s.g) (x : Int) :
  (k.mov t f n).ld x = if (t : Int) <= x /\ x < (t : Int) + n then k.ld (f + (x - t)) else k.ld x := by
 have e : (k.mov t f n).ld x = ld k.a.N k.s.y k.s.g (splice k.s.ws t ((k.s.ws.drop f).take n)) x := rfl
 rw [e]
 unfold Jk.ld
 by_cases c : (t : Int) <= x /\ x < (t : Int) + n
 ·rw [if_pos c, ld_in (iB_o (by omega) (by omega)), ld_in (iB_o (by omega) (by omega)), spl_get _ _ _ _ _ (by omega) (by omega), if_pos (by omega)]
  congr 1
  omega
 ·rw [if_neg c]
  cases hb : iB k.a.N k.s.y k.s.g x
  ·unfold ld
   rw [hb]
   rfl
  ·have hb2 := (iB_bool _ _ _ _).1 hb
   rw [ld_in hb, ld_in hb, spl_get _ _ _ _ _ (by omega) (by omega), if_neg (by omega)]
structure Ksm (k k' : Jk) : Prop where
  a : k'.a = k.a
  y : k'.s.y = k.s.y
  rs : k'.s.rs = k.s.rs
  len : k'.s.ws.length = k.s.ws.length
theorem Ksm.refl (k : Jk) : Ksm k k := ⟨rfl, rfl, rfl, rfl⟩
theorem Ksm.trans {k k' k'' : Jk} (h : Ksm k k') (j : Ksm k' k'') : Ksm k k'' := ⟨j.a.trans h.a, j.y.trans h.y, j.rs.trans h.rs, j.len.trans h.len⟩
structure SlI (k : Jk) (al : Int -> Bool) (f : Int -> Int) (m : Int) (D l : List Int) (t : Jk × Int) : Prop where
  sm : Ksm k t.1
  g : t.1.s.g = k.s.g
  u0 : 0 <= t.2
  pos : Pos (fun a => pf (k.ld a)) al f (k.a.N + t.2) l m
  tl : ∃ b : Int, Tile k.ld (k.a.N + k.s.g) b l /\ k.a.N + t.2 <= b /\ ∀ x : Int, b <= x -> x < k.a.N + k.s.g -> t.1.ld x = k.ld x
  yg : ∀ x : Int, 0 <= x -> x < k.s.y -> t.1.ld x = k.ld x
  rel : ∀ c ∈ D, al c = true -> f c + pf (k.ld c) < k.a.N + t.2 /\ ∀ i : Int, 0 <= i -> i <= pf (k.ld c) -> t.1.ld (f c + i) = k.ld (c + i)
section
variable {k : Jk} {al : Int -> Bool} {s : Js} {m : Int}
theorem SlI.step (hl : k.s.ws.length = k.a.N + k.a.O) (hy : k.s.y <= k.a.N) (hg : k.s.g <= k.a.O) {D l : List Int} {a : Int} {t : Jk × Int} (h : SlI k al s.f m D (a :: l) t) (hs : al a = !(s.f a == -1)) : SlI k al s.f m (D ++ [a]) l (ejS (fun _ a => s.f a) (Jk.slS s) t a) := by
 obtain ⟨b, ⟨e, hp0, hle, ht⟩, hb, hsame⟩ := h.tl
 have hpf := pf_bd (k.ld b)
 have u0 := h.u0
 cases c : al a
 ·rw [c] at hs
  have c2 : s.f a = -1 := by simpa using hs
  have e1 : ejS (fun _ a => s.f a) (Jk.slS s) t a = t := by unfold ejS; rw [if_pos c2]
  rw [e1]
  refine ⟨h.sm, h.g, h.u0, (h.pos.2 c).2, ⟨b + (1 + pf (k.ld b)), ht, by omega, fun x h1 h2 => hsame x (by omega) h2⟩, h.yg, fun d hd hal => ?_⟩
  rcases List.mem_append.1 hd with hd | hd
  ·exact h.rel d hd hal
  ·rw [List.mem_singleton.1 hd, c] at hal
   cases hal
 ·rw [c] at hs
  have c2 : s.f a ≠ -1 := by simpa using hs.symm
  obtain ⟨p1, p2⟩ := h.pos.1 c
  have e1 : ejS (fun _ a => s.f a) (Jk.slS s) t a = Jk.slS s t a := by unfold ejS; rw [if_neg c2]
  rw [e1]
  have ea : t.1.ld a = k.ld a := hsame a (by omega) (by rw [e]; omega)
  have eK : Jk.slS s t a = (t.1.mov (s.f a).toNat a.toNat (1 + (pf (k.ld a)).toNat), t.2 + (1 + pf (k.ld a))) := by unfold Jk.slS; rw [ea]
  have hz : pf (k.ld a) = pf (k.ld b) := by rw [e]
  have hN := h.sm.a
  have hyy := h.sm.y
  have hgg := h.g
  have hll := h.sm.len
  have M := jmov_ld t.1 (by rw [hll, hN]; exact hl) (by rw [hyy, hN]; exact hy) (by rw [hgg, hN]; exact hg) (s.f a).toNat a.toNat (1 + (pf (k.ld a)).toNat) (by rw [hN]; omega) (by rw [hN, hgg]; omega) (by rw [hN]; omega) (by rw [hN, hgg]; omega)
  have hk2 : Ksm t.1 (t.1.mov (s.f a).toNat a.toNat (1 + (pf (k.ld a)).toNat)) /\ (t.1.mov (s.f a).toNat a.toNat (1 + (pf (k.ld a)).toNat)).s.g = t.1.s.g := by
   refine ⟨⟨rfl, rfl, rfl, ?_⟩, rfl⟩
   show (splice t.1.s.ws _ _).length = _
   refine splice_len _ _ _ ?_
   rw [hll, hl, List.length_take, List.length_drop, hll, hl]
   omega
  rw [eK]
  generalize t.1.mov (s.f a).toNat a.toNat (1 + (pf (k.ld a)).toNat) = k2 at M hk2 ⊢
  have M2 : ∀ x, k2.ld x = if s.f a <= x /\ x < s.f a + (1 + pf (k.ld a)) then t.1.ld (a + (x - s.f a)) else t.1.ld x := fun x => by
   rw [M x]
   have h1 : ((s.f a).toNat : Int) = s.f a := by omega
   have h2 : (a.toNat : Int) = a := by omega
   have h3 : ((1 + (pf (k.ld a)).toNat : Nat) : Int) = 1 + pf (k.ld a) := by omega
   rw [h1, h2, h3]
  have p2 : Pos (fun a => pf (k.ld a)) al s.f (k.a.N + t.2 + (1 + pf (k.ld a))) l m := p2
  refine ⟨h.sm.trans hk2.1, hk2.2.trans h.g, by dsimp only; omega, by dsimp only; rw [<- Int.add_assoc]; exact p2, ⟨b + (1 + pf (k.ld b)), ht, by dsimp only; omega, fun x h1 h2 => ?_⟩, fun x h1 h2 => ?_, fun d hd hal => ?_⟩
  ·dsimp only
   rw [M2, if_neg (by omega)]
   exact hsame x (by omega) h2
  ·dsimp only
   rw [M2, if_neg (by omega)]
   exact h.yg x h1 h2
  ·dsimp only
   rcases List.mem_append.1 hd with hd | hd
   ·obtain ⟨r1, r2⟩ := h.rel d hd hal
    refine ⟨by omega, fun i i0 i1 => ?_⟩
    rw [M2, if_neg (by omega)]
    exact r2 i i0 i1
   ·rw [List.mem_singleton.1 hd]
    refine ⟨by omega, fun i i0 i1 => ?_⟩
    rw [M2, if_pos (by omega), show a + (s.f a + i - s.f a) = a + i from by omega]
    exact hsame (a + i) (by omega) (by omega)
theorem SlI.slg (hl : k.s.ws.length = k.a.N + k.a.O) (hy : k.s.y <= k.a.N) (hg : k.s.g <= k.a.O) (hN : k.a.N <= 256) (hO : k.a.O <= 1024) (hs : ∀ a ∈ k.G, al a = !(s.f a == -1)) (hm : m <= k.a.N + k.a.O) : SlG k s (fun j t => SlI k al s.f m (k.G.take j) (k.G.drop j) t) := by
 have hz : ∀ a, 0 <= (fun a => pf (k.ld a)) a := fun a => (pf_bd _).1
 refine ⟨fun j t hj h hf => ?_, fun j t hj h => ?_, fun t h => ?_⟩
 ·have e : k.G.drop j = k.G.getD j 0 :: k.G.drop (j + 1) := by
   rw [List.drop_eq_getElem_cons hj, List.getD_eq_getElem?_getD, List.getElem?_eq_getElem hj]
   rfl
  have hmem : k.G.getD j 0 ∈ k.G := by
   rw [List.getD_eq_getElem?_getD, List.getElem?_eq_getElem hj]
   exact List.getElem_mem hj
  generalize k.G.getD j 0 = a at e hf hmem ⊢
  have h : SlI k al s.f m (k.G.take j) (k.G.drop j) t := h
  rw [e] at h
  have ha : al a = true := by rw [hs a hmem, beq_false_of_ne hf]; rfl
  obtain ⟨b, ⟨eb, hp0, hle, ht⟩, hb, hsame⟩ := h.tl
  have hpf := pf_bd (k.ld b)
  have u0 := h.u0
  obtain ⟨p1, p2⟩ := h.pos.1 ha
  have p3 := p2.le hz
  have p3 : k.a.N + t.2 + (1 + pf (k.ld a)) <= m := p3
  have ea : t.1.ld a = k.ld a := hsame a (by omega) (by rw [eb]; omega)
  rw [ea, p1]
  rw [eb] at p3 ⊢
  omega
 ·have e : k.G.drop j = k.G.getD j 0 :: k.G.drop (j + 1) := by
   rw [List.drop_eq_getElem_cons hj, List.getD_eq_getElem?_getD, List.getElem?_eq_getElem hj]
   rfl
  have e2 : k.G.take (j + 1) = k.G.take j ++ [k.G.getD j 0] := take_snoc k.G j hj 0
  have hmem : k.G.getD j 0 ∈ k.G := by
   rw [List.getD_eq_getElem?_getD, List.getElem?_eq_getElem hj]
   exact List.getElem_mem hj
  have h : SlI k al s.f m (k.G.take j) (k.G.drop j) t := h
  rw [e] at h
  have h2 := h.step hl hy hg (hs _ hmem)
  rw [<- e2] at h2
  exact h2
 ·have h : SlI k al s.f m (k.G.take k.G.length) (k.G.drop k.G.length) t := h
  have u0 := h.u0
  have h2 := h.pos.le hz
  omega
theorem SlI.all (hl : k.s.ws.length = k.a.N + k.a.O) (hy : k.s.y <= k.a.N) (hg : k.s.g <= k.a.O) (hs : ∀ a ∈ k.G, al a = !(s.f a == -1)) : ∀ (l D : List Int) (t : Jk × Int), (∀ a ∈ l, a ∈ k.G) -> SlI k al s.f m D l t -> SlI k al s.f m (D ++ l) [] (ejL (fun _ a => s.f a) (Jk.slS s) t l)
 | [], D, t, _, h => by rw [List.append_nil]; exact h
 | a :: l, D, t, hG, h => by
  have h1 := h.step hl hy hg (hs a (hG a (by simp)))
  have h2 := SlI.all hl hy hg hs l (D ++ [a]) _ (fun b hb => hG b (List.mem_cons_of_mem _ hb)) h1
  rw [List.append_assoc] at h2
  exact h2
structure CpI (k : Jk) (al : Int -> Bool) (f : Int -> Int) (m : Int) (D l : List Int) (t : Jk) : Prop where
  sm : Ksm k t
  g : t.s.g <= k.a.O
  pos : Pos (fun a => pf (k.ld a)) al f (k.a.N + t.s.g) l m
  yg : ∀ x : Int, 0 <= x -> x < k.s.y -> t.ld x = k.ld x
  rel : ∀ c ∈ D, al c = true -> (k.a.N : Int) <= f c /\ f c + pf (k.ld c) < k.a.N + t.s.g /\ ∀ i : Int, 0 <= i -> i <= pf (k.ld c) -> t.ld (f c + i) = k.ld (c + i)
theorem CpI.step (hl : k.s.ws.length = k.a.N + k.a.O) (hy : k.s.y <= k.a.N) (hm : m <= k.a.N + k.a.O) {D l : List Int} {a : Int} {t : Jk} (h : CpI k al s.f m D (a :: l) t) (hs : al a = !(s.f a == -1)) (h0 : 0 <= a) (h1 : a + (1 + pf (k.ld a)) <= k.s.y) (h2 : pc (k.ld a) = 0) : CpI k al s.f m (D ++ [a]) l (ejS (fun (_ : Jk) a => s.f a) (fun k a => k.cop a) t a) := by
 have hz : ∀ a, 0 <= (fun a => pf (k.ld a)) a := fun a => (pf_bd _).1
 have hpf := pf_bd (k.ld a)
 cases c : al a
 ·rw [c] at hs
  have c2 : s.f a = -1 := by simpa using hs
  have e1 : ejS (fun (_ : Jk) a => s.f a) (fun k a => k.cop a) t a = t := by unfold ejS; rw [if_pos c2]
  rw [e1]
  refine ⟨h.sm, h.g, (h.pos.2 c).2, h.yg, fun d hd hal => ?_⟩
  rcases List.mem_append.1 hd with hd | hd
  ·exact h.rel d hd hal
  ·rw [List.mem_singleton.1 hd, c] at hal
   cases hal
 ·rw [c] at hs
  have c2 : s.f a ≠ -1 := by simpa using hs.symm
  obtain ⟨p1, p2⟩ := h.pos.1 c
  have p2 : Pos (fun a => pf (k.ld a)) al s.f (k.a.N + t.s.g + (1 + pf (k.ld a))) l m := p2
  have p3 := p2.le hz
  have e1 : ejS (fun (_ : Jk) a => s.f a) (fun k a => k.cop a) t a = t.cop a := by unfold ejS; rw [if_neg c2]
  rw [e1]
  have ea : t.ld a = k.ld a := h.yg a h0 (by omega)
  have hN := h.sm.a
  have hyy := h.sm.y
  have hll := h.sm.len
  have hgg := h.g
  have el : ld t.a.N t.s.y t.s.g t.s.ws a = k.ld a := ea
  have hend : endA t.a.N t.s.y t.s.g a = t.s.y := by
   unfold endA
   have e0 : hB (0 : Int) t.s.y a = true := by unfold hB; exact decide_eq_true ⟨h0, by omega⟩
   first | rw [if_pos e0] | (simp [e0])
  have hc : cpB t.a.N t.a.O t.s.y t.s.g t.s.ws a = true := by
   unfold cpB
   rw [el, hend]
   exact decide_eq_true ⟨h2, by omega, by rw [hN]; omega⟩
  have M := Ck.ld_cp (k := ⟨t.a.N, t.a.O, t.s.y, []⟩) (s := ⟨t.s.g, t.s.ws, fun _ => -1, 0, [], [], []⟩) (by show t.s.ws.length = t.a.N + t.a.O; rw [hll, hN]; exact hl) (by show t.s.y <= t.a.N; rw [hyy, hN]; exact hy) (by show t.s.g <= t.a.O; rw [hN]; exact hgg) (a := a) h0 (by show a + 1 + pf (ld t.a.N t.s.y t.s.g t.s.ws a) <= t.s.y; rw [el]; omega) hc
  have M2 : ∀ x, (t.cop a).ld x = if (k.a.N : Int) + t.s.g <= x /\ x < (k.a.N : Int) + t.s.g + (1 + pf (k.ld a)) then t.ld (a + (x - (k.a.N + t.s.g))) else t.ld x := fun x => by
   have := M x
   rw [<- hN, <- el]
   exact this
  have eg : (t.cop a).s.g = t.s.g + (1 + (pf (k.ld a)).toNat) := by
   show cpG _ _ _ _ _ _ = _
   unfold cpG
   rw [if_pos hc, el]
  have elen : (t.cop a).s.ws.length = t.s.ws.length := by
   show (cpW _ _ _ _ _ _).length = _
   unfold cpW
   rw [if_pos hc, el]
   refine splice_len _ _ _ ?_
   rw [hll, hl, hN, List.length_take, List.length_drop, hll, hl]
   omega
  have esm : Ksm t (t.cop a) := ⟨rfl, rfl, rfl, elen⟩
  generalize t.cop a = t2 at M2 eg esm ⊢
  have eg2 : (t2.s.g : Int) = t.s.g + (1 + pf (k.ld a)) := by omega
  refine ⟨h.sm.trans esm, by omega, by rw [eg2, <- Int.add_assoc]; exact p2, fun x x0 x1 => ?_, fun d hd hal => ?_⟩
  ·rw [M2, if_neg (by omega)]
   exact h.yg x x0 x1
  ·rcases List.mem_append.1 hd with hd | hd
   ·obtain ⟨r0, r1, r2⟩ := h.rel d hd hal
    refine ⟨r0, by omega, fun i i0 i1 => ?_⟩
    rw [M2, if_neg (by omega)]
    exact r2 i i0 i1
   ·rw [List.mem_singleton.1 hd]
    refine ⟨by omega, by omega, fun i i0 i1 => ?_⟩
    rw [M2, if_pos (by omega), show a + (s.f a + i - (k.a.N + t.s.g)) = a + i from by omega]
    exact h.yg (a + i) (by omega) (by omega)
theorem CpI.all (hl : k.s.ws.length = k.a.N + k.a.O) (hy : k.s.y <= k.a.N) (hm : m <= k.a.N + k.a.O) : ∀ (l D : List Int) (t : Jk), (∀ a ∈ l, al a = !(s.f a == -1) /\ 0 <= a /\ a + (1 + pf (k.ld a)) <= k.s.y /\ pc (k.ld a) = 0) -> CpI k al s.f m D l t -> CpI k al s.f m (D ++ l) [] (t.cpL s l)
 | [], D, t, _, h => by rw [List.append_nil]; exact h
 | a :: l, D, t, hG, h => by
  obtain ⟨g1, g2, g3, g4⟩ := hG a (by simp)
  have h1 := h.step hl hy hm g1 g2 g3 g4
  have h2 := CpI.all hl hy hm l (D ++ [a]) _ (fun b hb => hG b (List.mem_cons_of_mem _ hb)) h1
  rw [List.append_assoc] at h2
  exact h2
end
end Go.Proofs.YtnalfnlmaallmaaGreat
