/- Joined: Rl3, Rl7, Rl8. -/
import Derived.Test.YtnalfnlmaallmaaGreatJ46
namespace Go.Proofs.YtnalfnlmaallmaaGreat
open Go.RowKit W Kp Stl
structure Sim {σ : Type} (lk : σ -> En -> Bool × σ) (g : List Bool -> List Bool) (pe : En -> En) (R : List En) (ρ : σ -> List Bool -> List En -> Prop) : Prop where
  no : ∀ t L C e, ρ t L C -> e ∈ R -> isd L e.1 = false -> lk t (pe e) = (false, t)
  yes : ∀ t L C e, ρ t L C -> e ∈ R -> isd L e.1 = true -> (lk t (pe e)).1 = true /\ ρ (lk t (pe e)).2 (kpg g L e.2) (C ++ [e])
section
variable {σ : Type} {lk : σ -> En -> Bool × σ} {g : List Bool -> List Bool} {pe : En -> En} {R : List En} {ρ : σ -> List Bool -> List En -> Prop}
theorem Sim.pass (h : Sim lk g pe R ρ) : ∀ (l : List En) (t : σ) (L : List Bool) (C D A : List En), (∀ e ∈ l, e ∈ R) -> ρ t L C ->
  ρ ((l.map pe).foldl (pstep lk) (A, D.map pe, t)).2.2 (Stl.pass isd (kpg g) l L C D).1 (Stl.pass isd (kpg g) l L C D).2.1 /\ ((l.map pe).foldl (pstep lk) (A, D.map pe, t)).2.1 = (Stl.pass isd (kpg g) l L C D).2.2.map pe /\
  ((l.map pe).foldl (pstep lk) (A, D.map pe, t)).1.length + C.length = A.length + (Stl.pass isd (kpg g) l L C D).2.1.length
 | [], t, L, C, D, A, _, hr => ⟨hr, rfl, rfl⟩
 | e :: l, t, L, C, D, A, hl, hr => by
  have he := hl e (by simp)
  rw [List.map_cons, List.foldl_cons]
  cases c : isd L e.1
  ·have e1 : pstep lk (A, D.map pe, t) (pe e) = (A, (D ++ [e]).map pe, t) := by
    unfold pstep
    rw [h.no t L C e hr he c, List.map_append]
    rfl
   rw [e1, Stl.pass, c, if_neg (by simp)]
   exact h.pass l t L C (D ++ [e]) A (fun x hx => hl x (List.mem_cons_of_mem _ hx)) hr
  ·obtain ⟨y1, y2⟩ := h.yes t L C e hr he c
   have e1 : pstep lk (A, D.map pe, t) (pe e) = (A ++ [pe e], D.map pe, (lk t (pe e)).2) := by
    unfold pstep
    rw [if_pos y1]
   rw [e1, Stl.pass, c, if_pos rfl]
   obtain ⟨i1, i2, i3⟩ := h.pass l (lk t (pe e)).2 (kpg g L e.2) (C ++ [e]) D (A ++ [pe e]) (fun x hx => hl x (List.mem_cons_of_mem _ hx)) y2
   refine ⟨i1, i2, ?_⟩
   simp only [List.length_append, List.length_cons, List.length_nil] at i3
   omega
theorem pass_leftD {σ : Type} (is : σ -> Int -> Bool) (kp : σ -> Int -> σ) (e : En) : ∀ (l : List En) (s : σ) (C D : List En), e ∈ (Stl.pass is kp l s C D).2.2 -> e ∈ D \/ e ∈ l
 | [], _, _, _, h => Or.inl h
 | x :: l, s, C, D, h => by
  rw [Stl.pass] at h
  split at h
  ·exact (pass_leftD is kp e l _ _ _ h).imp id (List.mem_cons_of_mem _)
  ·rcases pass_leftD is kp e l _ _ _ h with d | d
   ·rcases List.mem_append.1 d with d | d
    ·exact Or.inl d
    ·exact Or.inr (by rw [List.mem_singleton.1 d]; simp)
   ·exact Or.inr (List.mem_cons_of_mem _ d)
theorem pass_left {σ : Type} (is : σ -> Int -> Bool) (kp : σ -> Int -> σ) (l : List En) (s : σ) (C : List En) (e : En) (h : e ∈ (Stl.pass is kp l s C []).2.2) : e ∈ l :=
 (pass_leftD is kp e l s C [] h).resolve_left (by simp)
theorem Sim.turns (h : Sim lk g pe R ρ) : ∀ (n : Nat) (D : List En) (t : σ) (L : List Bool) (C : List En), (∀ e ∈ D, e ∈ R) -> ρ t L C ->
  ρ (trn lk n t (D.map pe)).1 (Stl.turns isd (kpg g) n D L C).1 (Stl.turns isd (kpg g) n D L C).2.1 /\ (trn lk n t (D.map pe)).2 = (Stl.turns isd (kpg g) n D L C).2.2.map pe
 | 0, D, t, L, C, _, hr => ⟨hr, rfl⟩
 | n + 1, D, t, L, C, hD, hr => by
  obtain ⟨p1, p2, p3⟩ := h.pass D t L C [] [] hD hr
  have p1 : ρ (pts lk t (D.map pe)).2.2 (Stl.pass isd (kpg g) D L C []).1 (Stl.pass isd (kpg g) D L C []).2.1 := p1
  have p2 : (pts lk t (D.map pe)).2.1 = (Stl.pass isd (kpg g) D L C []).2.2.map pe := p2
  have p3 : (pts lk t (D.map pe)).1.length + C.length = 0 + (Stl.pass isd (kpg g) D L C []).2.1.length := p3
  by_cases c : (pts lk t (D.map pe)).1.length = 0
  ·rw [trn_stop _ _ _ _ c, turns_stop (by omega)]
   exact ⟨p1, p2⟩
  ·rw [trn_go _ _ _ _ c, turns_go (by omega), p2]
   exact h.turns n _ _ _ _ (fun e he => hD e (pass_left _ _ D L C e he)) p1
end
theorem trn_more {σ : Type} (lk : σ -> En -> Bool × σ) : ∀ (n k : Nat) (t : σ) (d : List En), d.length < n -> d.length < k -> trn lk n t d = trn lk k t d
 | 0, _, _, _, h, _ => absurd h (by omega)
 | _ + 1, 0, _, _, _, h => absurd h (by omega)
 | n + 1, k + 1, t, d, h1, h2 => by
  have hl := pts_len lk t d
  by_cases c : (pts lk t d).1.length = 0
  ·rw [trn_stop _ _ _ _ c, trn_stop _ _ _ _ c]
  ·rw [trn_go _ _ _ _ c, trn_go _ _ _ _ c]
   exact trn_more lk n k _ _ (by omega) (by omega)
theorem filter_mapr {α β : Type} (f : α -> β) (p : β -> Bool) (q : α -> Bool) : ∀ l : List α, (∀ x ∈ l, p (f x) = q x) -> (l.map f).filter p = (l.filter q).map f
 | [], _ => rfl
 | x :: l, h => by
  have ih := filter_mapr f p q l (fun y hy => h y (List.mem_cons_of_mem _ hy))
  have hx := h x (by simp)
  rw [List.map_cons]
  cases c : q x
  ·rw [List.filter_cons_of_neg (by rw [hx, c]; simp), List.filter_cons_of_neg (by rw [c]; simp), ih]
  ·rw [List.filter_cons_of_pos (by rw [hx, c]), List.filter_cons_of_pos c, List.map_cons, ih]
section
variable {a : Wc} {S : Ww} {W : Wrs} {m : Nat -> Int} {Y G : List Int}
theorem Rl.wcv (h : Rl a S W m Y G) (h1 : W.T.length <= 10000) (h2 : W.rg.length <= 1000) (h3 : W.wt.length <= 1000) : Wcv W :=
  { iv := ⟨fun i hi hk => by
      have := hc_yes _ _ (h.hd i hi).1
      omega, fun i hi v hv h3 => (h.fv i hi v hv).t h3, fun e he => ⟨(h.wo e he).h0, (h.wo e he).h⟩, h.tl⟩
    rv := fun v hv h3 => (h.rv v hv).t h3
    gv := fun e he => ⟨⟨(h.gv e he).g0, (h.gv e he).g⟩, (h.gv e he).h0, (h.gv e he).h⟩
    wg := fun e he => ⟨(h.wo e he).g0, (h.wo e he).g⟩
    tl := h1, gl := h2, wl := h3 }
theorem Rl.iv (h : Rl a S W m Y G) : Wiv W.T W.wt :=
  ⟨fun i hi hk => by
      have := hc_yes _ _ (h.hd i hi).1
      omega, fun i hi v hv h3 => (h.fv i hi v hv).t h3, fun e he => ⟨(h.wo e he).h0, (h.wo e he).h⟩, h.tl⟩
theorem Rl.first (h : Rl a S W m Y G) (mj : Bool) : Sok_ W.T (frs W.T W.rs mj) :=
 ⟨frs_len _ _ _, fun k hk => by
  obtain ⟨h1, h2⟩ := (frs_in _ _ _ _).1 hk
  rcases h2 with ⟨_, h2, _⟩ | ⟨v, hv, h3, e⟩
  ·exact ⟨h1, h2⟩
  ·rw [<- e]
   exact ((h.rv v hv).t h3).2⟩
theorem Rl.field (h : Rl a S W m Y G) {i : Nat} (hi : Alv W.T i) {v : Int × Int} (hv : v ∈ (W.T.getD i t0).2.1) : ∃ k : Nat, k < (W.T.getD i t0).2.1.length /\ (W.T.getD i t0).2.1.getD k (0, 0) = v /\ ld a.N S.s.y S.s.g S.s.ws (m i + 1 + k) = wv m v := by
 obtain ⟨k, hk, e⟩ := List.mem_iff_getElem.1 hv
 have e2 : (W.T.getD i t0).2.1.getD k (0, 0) = v := by
  rw [List.getD_eq_getElem?_getD, List.getElem?_eq_getElem hk, e]
  rfl
 exact ⟨k, hk, e2, by rw [h.fd i hi k hk, e2]⟩
theorem Rl.two (h : Rl a S W m Y G) {i : Nat} (hi : Alv W.T i) (hk : (W.T.getD i t0).1 = 1 \/ (W.T.getD i t0).1 = 3 \/ (W.T.getD i t0).1 = 4) : (W.T.getD i t0).2.1.length = 2 := by
 have := hc_yes _ _ (h.hd i hi).1
 omega
end
end Go.Proofs.YtnalfnlmaallmaaGreat

namespace Go.Proofs.YtnalfnlmaallmaaGreat
open Go.RowKit W Kp Stl
structure Csm (k : Ck) (z : C0) (C : Int -> Prop) : Prop where
  old : ∀ b ∈ z.G, C b
  p : ∀ c, (c ∈ k.T \/ c ∈ z.G) -> C c -> pk (k.l0 z c) = 1 \/ pk (k.l0 z c) = 2 -> ∀ i : Nat, (i : Int) < pf (k.l0 z c) -> k.yg (k.l0 z (c + 1 + i)) = true -> C (aV (k.l0 z (c + 1 + i)))
  w : ∀ c, (c ∈ k.T \/ c ∈ z.G) -> C c -> pk (k.l0 z c) = 3 -> k.yg (k.l0 z (c + 1 + 1)) = true -> C (aV (k.l0 z (c + 1 + 1)))
  e : ∀ c, (c ∈ k.T \/ c ∈ z.G) -> C c -> pk (k.l0 z c) = 4 -> (k.yg (k.l0 z (c + 1 + 0)) = true -> C (aV (k.l0 z (c + 1 + 0)))) -> k.yg (k.l0 z (c + 1 + 1)) = true -> C (aV (k.l0 z (c + 1 + 1)))
def Cqs (k : Ck) (C : Int -> Prop) (q : List En) : Prop := ∀ e ∈ q, (k.yg e.1 = true -> C (aV e.1)) -> k.yg e.2 = true -> C (aV e.2)
def Sns (k : Ck) (C : Int -> Prop) (s : Cs) : Prop := ∀ a ∈ k.T, s.f a ≠ -1 -> C a
section
variable {k : Ck} {z : C0} {s t : Cs} {H D : List Int} {C : Int -> Prop}
theorem yg_mem {x : Int} (h : k.yg x = true) : aV x ∈ k.T := by
 unfold Ck.yg at h
 simp at h
 exact h.2
theorem ls_yg {x : Int} (h : k.ls s x = true) : k.yg x = true := by
 unfold Ck.ls at h
 rw [Bool.and_eq_true] at h
 exact h.1
theorem Sns.br (h : Sns k C s) (x : Int) (hx : k.yg x = true -> C (aV x)) : Sns k C (k.br s x).2 := by
 unfold Ck.br
 split
 ·rename_i c
  intro b hb hf
  by_cases e : b = aV x
  ·rw [e]
   exact hx (ls_yg c)
  ·refine h b hb ?_
   have e2 : (k.cp s (aV x)).f b = s.f b := by
    unfold Ck.cp upf
    dsimp only
    rw [if_neg e]
   have hf : (k.cp s (aV x)).f b ≠ -1 := hf
   rw [e2] at hf
   exact hf
 ·exact h
theorem MI.atY (h : MI k z s H) {a b i : Int} (ho : k.or z s a b) (i0 : 0 <= i) (i1 : i < pf (k.l0 z a)) (hl : k.yg (k.ld s (b + 1 + i)) = true) : k.ld s (b + 1 + i) = k.l0 z (a + 1 + i) := by
 rcases h.fd a b ho i i0 i1 with e | ⟨y1, y2, y3⟩
 ·exact e
 ·exfalso
  have hb := h.bdH (h.fh _ (yg_mem y1) y2)
  have n1 := h.ci.hN'
  have n2 := h.ci.hO
  have n3 := h.ci.hg
  rw [y3, yg_old h.ci hb.1 (by omega)] at hl
  cases hl
theorem Sns.kf (h : Sns k C s) (mi : MI k z s H) {a b i : Int} (ho : k.or z s a b) (i0 : 0 <= i) (i1 : i < pf (k.l0 z a)) (hx : k.yg (k.l0 z (a + 1 + i)) = true -> C (aV (k.l0 z (a + 1 + i)))) : Sns k C (k.kf s (b + 1 + i)) :=
 h.br (k.ld s (b + 1 + i)) (fun hy => by
  have e := mi.atY ho i0 i1 hy
  rw [e] at hy
  rw [e]
  exact hx hy)
theorem Sns.kfs (h : Sns k C s) (mi : MI k z s H) {a b : Int} (ho : k.or z s a b) (hx : ∀ i : Nat, (i : Int) < pf (k.l0 z a) -> k.yg (k.l0 z (a + 1 + i)) = true -> C (aV (k.l0 z (a + 1 + i)))) : ∀ n : Nat, (n : Int) <= pf (k.l0 z a) -> Sns k C (k.kfs s b n)
 | 0, _ => h
 | n + 1, hn => by
  obtain ⟨H1, m1, m2, _⟩ := mi.kfs ho n (by omega)
  exact (Sns.kfs h mi ho hx n (by omega)).kf m1 (m2.or ho) (i := n) (by omega) (by omega) (hx n (by omega))
theorem or_mem {a b : Int} (ho : k.or z s a b) : a ∈ k.T \/ a ∈ z.G := by
 rcases ho with ⟨e, h⟩ | ⟨h, _⟩
 ·rw [e]; exact Or.inr h
 ·exact Or.inl h
theorem Sns.or (h : Sns k C s) (hC : Csm k z C) {a b : Int} (ho : k.or z s a b) : C a := by
 rcases ho with ⟨e, h1⟩ | ⟨h1, h2, h3⟩
 ·rw [e]; exact hC.old b h1
 ·exact h a h1 (by rw [h2]; exact h3)
theorem Sns.lk (h : Sns k C s) (mi : MI k z s H) (hC : Csm k z C) {a b : Int} (ho : k.or z s a b) : Sns k C (k.lk s b) := by
 have ha := h.or hC ho
 have hm := or_mem ho
 have e0 := mi.hd a b ho
 have hb := mi.bd (mi.mem ho)
 have hbp := pf_bd (k.ld s b)
 unfold Ck.lk
 by_cases c1 : pk (k.ld s b) = 1 \/ pk (k.ld s b) = 2
 ·rw [if_pos c1]
  exact h.kfs mi ho (hC.p a hm ha (by rw [<- e0]; exact c1)) _ (by rw [<- e0]; omega)
 ·rw [if_neg c1]
  by_cases c3 : pk (k.ld s b) = 3
  ·rw [if_pos c3]
   have hf2 := pf_two hb.2.2 (Or.inr (Or.inl c3))
   have hN := mi.ci.hN'
   have hO := mi.ci.hO
   have hg := mi.ci.hg
   have h2 := mi.turn (s.wk ++ [b]) s.ep s.rs s.nx (fun x hx => by
    rcases List.mem_append.1 hx with d | d
    ·exact mi.ci.wk0 x d
    ·rw [List.mem_singleton] at d
     subst d
     omega) mi.ci.ep0 mi.ci.nx0 mi.ci.nx1
   have h3 : Sns k C { s with wk := s.wk ++ [b], ep := s.ep, rs := s.rs, nx := s.nx } := h
   have h4 := h3.kf (a := a) (b := b) (i := 1) h2 ho (by omega) (by rw [<- e0]; omega) (hC.w a hm ha (by rw [<- e0]; exact c3))
   have ea : b + 1 + 1 = b + 2 := by omega
   rw [ea] at h4
   exact h4
  ·rw [if_neg c3]
   split
   ·exact h
   ·exact h
theorem Sns.lb (hC : Csm k z C) : ∀ (n : Nat) {s : Cs} {H : List Int}, LI k z s H D -> Sns k C s -> Sns k C (k.lb n s)
 | 0, _, _, _, h => h
 | n + 1, s, H, l, h => by
  unfold Ck.lb
  cases hn : hB k.N s.g s.nx
  ·rw [if_neg (by simp)]
   exact h
  ·rw [if_pos rfl]
   have hb := hB_yes hn
   have hnx : s.nx ∈ H := l.bo.resolve_right (by omega)
   obtain ⟨a, ho⟩ := l.mi.from (List.mem_append_right z.G hnx)
   obtain ⟨H1, m1, _, _⟩ := l.lb1 hn
   have h1 : Sns k C (k.lk s s.nx) := h.lk l.mi hC ho
   exact Sns.lb hC n m1 h1
theorem Sns.key (h : Sns k C s) (mi : MI k z s H) {a b : Int} (ho : k.or z s a b) (i1 : 0 < pf (k.l0 z a)) (hl : k.ls s (k.ld s (b + 1)) = false) (hy : k.yg (k.l0 z (a + 1 + 0)) = true) : C (aV (k.l0 z (a + 1 + 0))) := by
 refine h _ (yg_mem hy) ?_
 have e1 : b + 1 + 0 = b + 1 := by omega
 rcases mi.fd a b ho 0 (by omega) i1 with e | ⟨y1, y2, _⟩
 ·rw [e1] at e
  intro d
  unfold Ck.ls at hl
  rw [e, hy, d] at hl
  simp at hl
 ·exact y2
theorem Sns.kf2 (h : Sns k C s) (l : LI k z s H D) (hC : Csm k z C) {b : Int} (hb : b ∈ z.G ++ H) (h4 : pk (k.ld s b) = 4) (hls : k.ls s (k.ld s (b + 1)) = false) : Sns k C (k.kf (k.kf s (b + 1)) (b + 2)) := by
 obtain ⟨a, o⟩ := l.mi.from hb
 have hbd := l.mi.bd hb
 have f2 := pf_two hbd.2.2 (Or.inr (Or.inr h4))
 have e0 := l.mi.hd a b o
 have x1 : b + 1 + 0 = b + 1 := by omega
 have x2 : b + 1 + 1 = b + 2 := by omega
 obtain ⟨H1, m1, m2, _, _⟩ := l.mi.kf (i := 0) o (by omega) (by rw [<- e0]; omega)
 have h1 := h.kf (i := 0) l.mi o (by omega) (by rw [<- e0]; omega) (h.key l.mi o (by rw [<- e0]; omega) hls)
 have h2 := h1.kf (i := 1) m1 (m2.or o) (by omega) (by rw [<- e0]; omega) (hC.e a (or_mem o) (h.or hC o) (by rw [<- e0]; exact h4) (h.key l.mi o (by rw [<- e0]; omega) hls))
 rw [x1, x2] at h2
 exact h2
theorem Sns.kvl (hC : Csm k z C) : ∀ (l left : List Int) {s : Cs} {H : List Int}, LI k z s H D -> (∀ a ∈ l, a ∈ z.G ++ H /\ pk (k.ld s a) = 4) -> Sns k C s -> Sns k C (l.foldl k.kv1 (left, s)).2
 | [], _, _, _, _, _, h => h
 | b :: l, left, s, H, li, hl, h => by
  rw [List.foldl_cons]
  cases hls : k.ls s (k.ld s (b + 1))
  ·have e1 : k.kv1 (left, s) b = (left, k.kf (k.kf s (b + 1)) (b + 2)) := by
    unfold Ck.kv1
    rw [if_neg (by rw [hls]; simp)]
   rw [e1]
   obtain ⟨hb1, hb2⟩ := hl b (by simp)
   obtain ⟨H1, m1, m2, m3, m4, m5⟩ := li.kf2 hb1 hb2
   exact Sns.kvl hC l left m1 (fun a ha => by
    obtain ⟨n1, n2⟩ := hl a (List.mem_cons_of_mem _ ha)
    exact ⟨mem_more m3 n1, by rw [m2.hd li.mi m1.mi n1]; exact n2⟩) (h.kf2 li hC hb1 hb2 hls)
  ·have e1 : k.kv1 (left, s) b = (left ++ [b], s) := by
    unfold Ck.kv1
    rw [if_pos hls]
   rw [e1]
   exact Sns.kvl hC l (left ++ [b]) li (fun a ha => hl a (List.mem_cons_of_mem _ ha)) h
theorem Sns.kv (hC : Csm k z C) (l : LI k z s H D) (w : WE k z s H) (h : Sns k C s) : Sns k C (k.kv s).2 := Sns.kvl hC s.ep [] l w.ep h
theorem Sns.wal : ∀ (l : List Nat) (t : (Cs × List En) × Bool) (H : List Int), LI k z t.1.1 H D -> WE k z t.1.1 H -> (∀ i ∈ l, i < t.1.2.length) -> Cqs k C t.1.2 -> Sns k C t.1.1 -> Sns k C (l.foldl (wkP k.al k.br) t).1.1 /\ Cqs k C (l.foldl (wkP k.al k.br) t).1.2
 | [], _, _, _, _, _, q, h => ⟨h, q⟩
 | i :: l, t, H, li, w, hl, q, h => by
  rw [List.foldl_cons]
  by_cases c : (k.al t.1.1 (t.1.2.getD i (0, 0)).2 || !k.al t.1.1 (t.1.2.getD i (0, 0)).1) = true
  ·have e1 : wkP k.al k.br t i = t := by unfold wkP; rw [if_pos c]
   rw [e1]
   exact Sns.wal l t H li w (fun j hj => hl j (List.mem_cons_of_mem _ hj)) q h
  ·have e1 : wkP k.al k.br t i = (((k.br t.1.1 (t.1.2.getD i (0, 0)).2).2, t.1.2.set i ((t.1.2.getD i (0, 0)).1, (k.br t.1.1 (t.1.2.getD i (0, 0)).2).1)), true) := by
    unfold wkP
    rw [if_neg c]
   have hi := hl i (by simp)
   have hm : t.1.2.getD i (0, 0) ∈ t.1.2 := getD_in hi
   obtain ⟨H1, l1, w1, p1, _⟩ := Ru.br (k := k) (z := z) (D := D) (s := t.1.1) (t.1.2.getD i (0, 0)).2 H li w
   obtain ⟨_, _, _, y1, _, _, _⟩ := li.mi.br (t.1.2.getD i (0, 0)).2
   have c2 : k.al t.1.1 (t.1.2.getD i (0, 0)).1 = true := by
    cases d : k.al t.1.1 (t.1.2.getD i (0, 0)).1
    ·rw [d] at c
     simp at c
    ·rfl
   have hg : k.yg (t.1.2.getD i (0, 0)).1 = true -> C (aV (t.1.2.getD i (0, 0)).1) := fun hy => h _ (yg_mem hy) (fun d => by
    unfold Ck.al Ck.ls at c2
    rw [hy, d] at c2
    simp at c2)
   rw [e1]
   refine Sns.wal l _ H1 l1 w1 (fun j hj => ?_) ?_ (h.br _ (q _ hm hg))
   ·show j < (t.1.2.set i _).length
    rw [List.length_set]
    exact hl j (List.mem_cons_of_mem _ hj)
   ·intro d hd
    have hd : d ∈ t.1.2.set i ((t.1.2.getD i (0, 0)).1, (k.br t.1.1 (t.1.2.getD i (0, 0)).2).1) := hd
    rcases List.mem_or_eq_of_mem_set hd with hd | rfl
    ·exact q d hd
    ·intro _ hy
     rw [y1] at hy
     cases hy
theorem Sns.wa {t : Cs × List En} (l : LI k z t.1 H D) (w : WE k z t.1 H) (q : Cqs k C t.2) (h : Sns k C t.1) : Sns k C (k.wa t).1.1 /\ Cqs k C (k.wa t).1.2 :=
 Sns.wal (List.range t.2.length) (t, false) H l w (fun _ hi => List.mem_range.1 hi) q h
theorem Sns.spr (hC : Csm k z C) : ∀ (n : Nat) (t : Cs × List En) (H : List Int), LI k z t.1 H D -> WE k z t.1 H -> Cqs k C t.2 -> Sns k C t.1 -> Sns k C (k.spr n t).1 /\ Cqs k C (k.spr n t).2
 | 0, _, _, _, _, q, h => ⟨h, q⟩
 | n + 1, t, H, l, w, q, h => by
  obtain ⟨H1, l1, w1, p1, _⟩ := Ru.lb (k := k) (z := z) (D := D) (s := t.1) (k.O + 1) H l w
  obtain ⟨H2, l2, w2, p2, _⟩ := Ru.kv (k := k) (z := z) (D := D) (s := k.lb (k.O + 1) t.1) H1 l1 w1
  have h1 := Sns.lb hC (k.O + 1) l h
  have h2 := Sns.kv hC l1 w1 h1
  obtain ⟨H3, l3, w3, _, _⟩ := Ru.wa (k := k) (z := z) (D := D) ((k.kv (k.lb (k.O + 1) t.1)).2, t.2) H2 l2 w2
  obtain ⟨h3, q3⟩ := Sns.wa (t := ((k.kv (k.lb (k.O + 1) t.1)).2, t.2)) l2 w2 q h2
  unfold Ck.spr
  split
  ·exact Sns.spr hC n ((k.kv (k.lb (k.O + 1) t.1)).2, t.2) H2 l2 w2 q h2
  ·split
   ·exact Sns.spr hC n _ H3 l3 w3 q3 h3
   ·exact ⟨h3, q3⟩
theorem Sns.ke (hC : Csm k z C) {t : Cs × List En} (l : LI k z t.1 H D) (w : WE k z t.1 H) (q : Cqs k C t.2) (h : Sns k C t.1) (x : Int) (hx : k.yg x = true -> C (aV x)) : Sns k C (k.ke t x).2.1 /\ Cqs k C (k.ke t x).2.2 := by
 obtain ⟨H1, l1, w1, _, _⟩ := Ru.br (k := k) (z := z) (D := D) (s := t.1) x H l w
 exact Sns.spr hC _ ((k.br t.1 x).2, t.2) H1 l1 w1 q (h.br x hx)
theorem Sns.kr (l : LI k z s H D) (h : Sns k C s) (hr : ∀ i, i < s.rs.length -> k.yg (s.rs.getD i 0) = true -> C (aV (s.rs.getD i 0))) : ∀ n, n <= s.rs.length -> Sns k C (k.kr s n)
 | 0, _ => h
 | n + 1, hn => by
  obtain ⟨_, _, _, _, _, _, m6, _⟩ := LI.kr l n (by omega)
  have e := m6 n (Nat.le_refl _)
  have := (Sns.kr l h hr n (by omega)).br ((k.kr s n).rs.getD n 0) (by rw [e]; exact hr n (by omega))
  exact this
theorem Sns.lm (hC : Csm k z C) (c : Int) (M : List Int) (hz : Tile (k.l0 z) ((k.N : Int) + z.g) k.N z.G) : ∀ (l : List Int) {s : Cs} {H D : List Int}, LI k z s H D -> (∀ a ∈ l, a ∈ z.G \/ (k.N : Int) + z.g <= a) -> Sns k C s -> Sns k C (l.foldl (k.lm1 ((k.N : Int) + z.g) c M) s)
 | [], _, _, _, _, _, h => h
 | b :: l, s, H, D, li, hl, h => by
  rw [List.foldl_cons]
  have hpf := pf_bd (k.ld s b)
  by_cases hbG : b ∈ z.G /\ (cB k.N c b && M.contains (cN k.N b)) = true
  ·have e0 := li.mi.hd b b (Or.inl ⟨rfl, hbG.1⟩)
   have hb := (hz.mem b hbG.1).2.1
   have e1 : k.lm1 ((k.N : Int) + z.g) c M s b = k.lk s b := by
    unfold Ck.lm1
    rw [if_pos (by rw [e0]; omega), if_pos hbG.2]
   rw [e1]
   obtain ⟨H1, m1, m2, ⟨H2, m3⟩⟩ := li.lk hbG.1
   exact Sns.lm hC c M hz l m1 (fun a ha => hl a (List.mem_cons_of_mem _ ha)) (h.lk li.mi hC (a := b) (b := b) (Or.inl ⟨rfl, hbG.1⟩))
  ·have e1 : k.lm1 ((k.N : Int) + z.g) c M s b = s := by
    unfold Ck.lm1
    by_cases hG : b ∈ z.G
    ·split
     ·rw [if_neg (fun e => hbG ⟨hG, e⟩)]
     ·rfl
    ·have := (hl b (by simp)).resolve_left hG
     rw [if_neg (by omega)]
   rw [e1]
   exact Sns.lm hC c M hz l li (fun a ha => hl a (List.mem_cons_of_mem _ ha)) h
end
end Go.Proofs.YtnalfnlmaallmaaGreat

namespace Go.Proofs.YtnalfnlmaallmaaGreat
open Go.RowKit W Kp Stl
section
variable {k : Ck} {z : C0} {s t : Cs} {H D : List Int}
theorem kvs_none (k : Ck) : ∀ (l left : List Int) (s : Cs), left.length + l.length <= (l.foldl k.kv1 (left, s)).1.length -> l.foldl k.kv1 (left, s) = (left ++ l, s) /\ ∀ a ∈ l, k.ls s (k.ld s (a + 1)) = true
 | [], left, s, _ => ⟨by simp, fun a ha => by cases ha⟩
 | b :: l, left, s, h => by
  rw [List.foldl_cons] at h ⊢
  cases hls : k.ls s (k.ld s (b + 1))
  ·have e1 : k.kv1 (left, s) b = (left, k.kf (k.kf s (b + 1)) (b + 2)) := by
    unfold Ck.kv1
    rw [if_neg (by rw [hls]; simp)]
   rw [e1] at h
   have h1 := (kvf_idle k l left (k.kf (k.kf s (b + 1)) (b + 2))).1
   rw [List.length_cons] at h
   omega
  ·have e1 : k.kv1 (left, s) b = (left ++ [b], s) := by
    unfold Ck.kv1
    rw [if_pos hls]
   rw [e1] at h ⊢
   obtain ⟨i1, i2⟩ := kvs_none k l (left ++ [b]) s (by rw [List.length_append, List.length_singleton]; rw [List.length_cons] at h; omega)
   refine ⟨by rw [i1]; simp, fun a ha => ?_⟩
   rcases List.mem_cons.1 ha with d | d
   ·rw [d]; exact hls
   ·exact i2 a d
theorem kvs_still (h : (k.kv s).1 = false) : (k.kv s).2 = s /\ ∀ a ∈ s.ep, k.ls s (k.ld s (a + 1)) = true := by
 unfold Ck.kv Ck.kvf at h ⊢
 dsimp only at h ⊢
 obtain ⟨h1, h2⟩ := kvs_none k s.ep [] s (by
  have := of_decide_eq_false h
  simp only [List.length_nil, Nat.zero_add]
  omega)
 rw [h1]
 exact ⟨rfl, h2⟩
theorem spr_ep : ∀ (n : Nat) (t : Cs × List En) (H : List Int), LI k z t.1 H D -> WE k z t.1 H -> CB k t.1 -> k.mu t.1 < n -> ∀ b ∈ (k.spr n t).1.ep, k.ls (k.spr n t).1 (k.ld (k.spr n t).1 (b + 1)) = true
 | 0, t, H, _, _, _, e => absurd e (by omega)
 | n + 1, t, H, h, w, hb, e => by
  obtain ⟨H1, l1, w1, _, _, e1⟩ := LI.lbw (k.O + 1) h w
  obtain ⟨c1, c2, c3⟩ := CI.lb h.mi.ci hb (k.O + 1)
  obtain ⟨d1, d2, d3, d4⟩ := CI.kv c1 c2
  obtain ⟨H2, l2, w2, _, _⟩ := l1.kv w1
  unfold Ck.spr
  cases hk : (k.kv (k.lb (k.O + 1) t.1)).1
  ·rw [if_neg (by simp)]
   obtain ⟨g1, g2⟩ := kvs_still hk
   obtain ⟨f1, f2, f3, f4, f5⟩ := CI.wa (s := ((k.kv (k.lb (k.O + 1) t.1)).2, t.2)) d1 d2
   cases hw : (k.wa ((k.kv (k.lb (k.O + 1) t.1)).2, t.2)).2
   ·rw [if_neg (by simp), wa_idle k _ hw]
    dsimp only
    rw [g1]
    exact g2
   ·rw [if_pos rfl]
    obtain ⟨H3, l3, w3, _, _⟩ := Ru.wa (k := k) (z := z) (D := D) ((k.kv (k.lb (k.O + 1) t.1)).2, t.2) H2 l2 w2
    have h5 := f5 hw
    dsimp only at h5
    exact spr_ep n _ H3 l3 w3 f2 (by omega)
  ·rw [if_pos rfl]
   have h5 := d4 hk
   exact spr_ep n ((k.kv (k.lb (k.O + 1) t.1)).2, t.2) H2 l2 w2 d2 (by dsimp only; omega)
structure Etl (k : Ck) (s : Cs) (q0 q : List En) : Prop where
  len : q.length = q0.length
  eq : ∀ n, n < q0.length -> (q.getD n (0, 0)).1 = (q0.getD n (0, 0)).1 /\ k.ml s (q0.getD n (0, 0)).2 (q.getD n (0, 0)).2
theorem Etl.refl (s : Cs) (q : List En) : Etl k s q q := ⟨rfl, fun _ _ => ⟨rfl, Or.inl rfl⟩⟩
theorem Etl.pg {q0 q : List En} (h : Etl k s q0 q) (p : Pg k s t) : Etl k t q0 q := ⟨h.len, fun n hn => ⟨(h.eq n hn).1, p.ml (h.eq n hn).2⟩⟩
theorem Etl.snoc {q0 q : List En} (h : Etl k s q0 q) {e e' : En} (h1 : e'.1 = e.1) (h2 : k.ml s e.2 e'.2) : Etl k s (q0 ++ [e]) (q ++ [e']) := by
 refine ⟨by simp [h.len], fun n hn => ?_⟩
 rw [List.length_append, List.length_singleton] at hn
 by_cases c : n < q0.length
 ·rw [getD_snocL _ _ _ _ c, getD_snocL _ _ _ _ (by rw [h.len]; exact c)]
  exact h.eq n c
 ·have en : n = q0.length := by omega
  subst en
  rw [getD_snocR, <- h.len, getD_snocR]
  exact ⟨h1, h2⟩
theorem Etl.wkl {q0 : List En} : ∀ (l : List Nat) (t : (Cs × List En) × Bool) (H : List Int), LI k z t.1.1 H D -> WE k z t.1.1 H -> (∀ i ∈ l, i < t.1.2.length) -> Etl k t.1.1 q0 t.1.2 -> Etl k (l.foldl (wkP k.al k.br) t).1.1 q0 (l.foldl (wkP k.al k.br) t).1.2
 | [], _, _, _, _, _, e => e
 | i :: l, t, H, h, w, hl, e => by
  rw [List.foldl_cons]
  by_cases c : (k.al t.1.1 (t.1.2.getD i (0, 0)).2 || !k.al t.1.1 (t.1.2.getD i (0, 0)).1) = true
  ·have e1 : wkP k.al k.br t i = t := by unfold wkP; rw [if_pos c]
   rw [e1]
   exact Etl.wkl l t H h w (fun j hj => hl j (List.mem_cons_of_mem _ hj)) e
  ·have e1 : wkP k.al k.br t i = (((k.br t.1.1 (t.1.2.getD i (0, 0)).2).2, t.1.2.set i ((t.1.2.getD i (0, 0)).1, (k.br t.1.1 (t.1.2.getD i (0, 0)).2).1)), true) := by
    unfold wkP
    rw [if_neg c]
   have hi := hl i (by simp)
   obtain ⟨H1, l1, w1, p1, _⟩ := Ru.br (k := k) (z := z) (D := D) (s := t.1.1) (t.1.2.getD i (0, 0)).2 H h w
   obtain ⟨_, _, _, _, _, m1, _⟩ := h.mi.br (t.1.2.getD i (0, 0)).2
   rw [e1]
   refine Etl.wkl l _ H1 l1 w1 (fun j hj => ?_) ⟨?_, fun n hn => ?_⟩
   ·show j < (t.1.2.set i _).length
    rw [List.length_set]
    exact hl j (List.mem_cons_of_mem _ hj)
   ·show (t.1.2.set i _).length = _
    rw [List.length_set]
    exact e.len
   ·show ((t.1.2.set i _).getD n (0, 0)).1 = _ /\ k.ml _ _ ((t.1.2.set i _).getD n (0, 0)).2
    rw [getD_setT _ _ _ _ _ hi]
    by_cases en : i = n
    ·rw [if_pos en]
     subst en
     exact ⟨(e.eq i hn).1, m1 _ (e.eq i hn).2⟩
    ·rw [if_neg en]
     exact ⟨(e.eq n hn).1, p1.ml (e.eq n hn).2⟩
theorem Etl.wa {q0 : List En} {t : Cs × List En} (h : LI k z t.1 H D) (w : WE k z t.1 H) (e : Etl k t.1 q0 t.2) : Etl k (k.wa t).1.1 q0 (k.wa t).1.2 :=
 Etl.wkl (List.range t.2.length) (t, false) H h w (fun _ hi => List.mem_range.1 hi) e
theorem Etl.spr {q0 : List En} : ∀ (n : Nat) (t : Cs × List En) (H : List Int), LI k z t.1 H D -> WE k z t.1 H -> Etl k t.1 q0 t.2 -> Etl k (k.spr n t).1 q0 (k.spr n t).2
 | 0, _, _, _, _, e => e
 | n + 1, t, H, h, w, e => by
  obtain ⟨H1, l1, w1, p1, _⟩ := Ru.lb (k := k) (z := z) (D := D) (s := t.1) (k.O + 1) H h w
  obtain ⟨H2, l2, w2, p2, _⟩ := Ru.kv (k := k) (z := z) (D := D) (s := k.lb (k.O + 1) t.1) H1 l1 w1
  have e2 : Etl k (k.kv (k.lb (k.O + 1) t.1)).2 q0 t.2 := e.pg (p1.trans p2)
  obtain ⟨H3, l3, w3, _, _⟩ := Ru.wa (k := k) (z := z) (D := D) ((k.kv (k.lb (k.O + 1) t.1)).2, t.2) H2 l2 w2
  have e3 := Etl.wa (t := ((k.kv (k.lb (k.O + 1) t.1)).2, t.2)) l2 w2 e2
  unfold Ck.spr
  split
  ·exact Etl.spr n ((k.kv (k.lb (k.O + 1) t.1)).2, t.2) H2 l2 w2 e2
  ·split
   ·exact Etl.spr n _ H3 l3 w3 e3
   ·exact e3
structure Dns (k : Ck) (z : C0) (D : List Int) (q0 : List En) (t : Cs × List En) : Prop where
  li : ∃ H, LI k z t.1 H D /\ WE k z t.1 H
  cb : CB k t.1
  wq : Wqa k t.1 t.2
  he : hB k.N t.1.g t.1.nx = false
  ep : ∀ b ∈ t.1.ep, k.ls t.1 (k.ld t.1 (b + 1)) = true
  q : Etl k t.1 q0 t.2
theorem Dns.sp {q0 : List En} {t : Cs × List En} (h : LI k z t.1 H D) (w : WE k z t.1 H) (hb : CB k t.1) (e : Etl k t.1 q0 t.2) : Dns k z D q0 (k.sp t) /\ Pg k t.1 (k.sp t).1 := by
 obtain ⟨K, m1, m2, m3, _⟩ := Ru.sp (k := k) (z := z) (D := D) t H h w
 exact ⟨⟨⟨K, m1, m2⟩, (spr_cb _ t h.mi.ci hb).2, spr_wq _ t H h w hb (by omega), spr_end _ t H h w hb (by omega), spr_ep _ t H h w hb (by omega), Etl.spr _ t H h w e⟩, m3⟩
theorem Dns.ke {q0 : List En} {t : Cs × List En} (h : Dns k z D q0 t) (x : Int) : Dns k z D q0 (k.ke t x).2 /\ Pg k t.1 (k.ke t x).2.1 /\ (∀ x0, k.ml t.1 x0 x -> k.ml (k.ke t x).2.1 x0 (k.ke t x).1) /\ k.yg (k.ke t x).1 = false /\ k.al (k.ke t x).2.1 x = true := by
 obtain ⟨H, l, w⟩ := h.li
 obtain ⟨H1, l1, w1, p1, _⟩ := Ru.br (k := k) (z := z) (D := D) (s := t.1) x H l w
 obtain ⟨_, _, _, y1, _, m1, f1, _⟩ := l.mi.br x
 obtain ⟨_, e1, e2, e3⟩ := br_rs k t.1 x
 have hb : CB k (k.br t.1 x).2 := ⟨by rw [e1, e3]; exact h.cb.wk, by rw [e2, e3]; exact h.cb.ep⟩
 obtain ⟨d1, d2⟩ := Dns.sp (t := ((k.br t.1 x).2, t.2)) l1 w1 hb (h.q.pg p1)
 refine ⟨d1, p1.trans d2, fun x0 hm => d2.ml (m1 x0 hm), y1, al_pg d2 ?_⟩
 unfold Ck.al Ck.ls
 cases c : k.yg x
 ·rfl
 ·simpa using f1 c
end
end Go.Proofs.YtnalfnlmaallmaaGreat
