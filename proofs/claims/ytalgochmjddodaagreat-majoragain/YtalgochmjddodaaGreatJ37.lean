/- Joined: Mg4, Mg6, Mg7, Mg8. -/
import Derived.Test.YtalgochmjddodaaGreatJ36
namespace Go.Proofs.YtalgochmjddodaaGreat
open Go.RowKit W Kp Stl
structure Clg (k : Jk) (C : Int -> Prop) : Prop where
  rt : ∀ i, i < 12 -> k.jt (k.s.rs.getD i 0) = true -> C (aV (k.s.rs.getD i 0))
  p : ∀ a ∈ k.T, C a -> pk (k.ld a) = 1 \/ pk (k.ld a) = 2 -> ∀ i : Nat, (i : Int) < pf (k.ld a) -> k.jt (k.ld (a + 1 + i)) = true -> C (aV (k.ld (a + 1 + i)))
  w : ∀ a ∈ k.T, C a -> pk (k.ld a) = 3 -> k.jt (k.ld (a + 2)) = true -> C (aV (k.ld (a + 2)))
  e : ∀ a ∈ k.T, C a -> pk (k.ld a) = 4 -> (k.jt (k.ld (a + 1)) = true -> C (aV (k.ld (a + 1)))) -> k.jt (k.ld (a + 2)) = true -> C (aV (k.ld (a + 2)))
def Cqg (k : Jk) (C : Int -> Prop) (q : List En) : Prop := ∀ e ∈ q, (k.jt e.1 = true -> C (aV e.1)) -> k.jt e.2 = true -> C (aV e.2)
structure Sn (k : Jk) (C : Int -> Prop) (s : Js) : Prop where
  snd : ∀ a ∈ k.T, s.f a ≠ -1 -> C a
  ea : ∀ a ∈ s.ep, a ∈ k.T /\ s.f a ≠ -1 /\ pk (k.ld a) = 4
section
variable {k : Jk} {C : Int -> Prop} {s : Js}
theorem Sn.jl (h : Sn k C s) {x : Int} (hj : k.jl s x = false) : k.jt x = true -> C (aV x) := fun ht => h.snd _ (jt_mem ht) ((Jk.jl_no ht).1 hj)
theorem Sn.al (h : Sn k C s) {x : Int} (hj : k.al s x = true) : k.jt x = true -> C (aV x) := h.jl (by unfold Jk.al at hj; simpa using hj)
theorem Sn.ma (h : Sn k C s) (x : Int) (hx : k.jt x = true -> C (aV x)) (le : Mle k s (k.ma s x)) : Sn k C (k.ma s x) := by
 refine ⟨fun b hb hf => ?_, fun b hb => ?_⟩
 ·by_cases c : k.jl s x = true
  ·have e : (k.ma s x).f b = if b = aV x then aV x else s.f b := by unfold Jk.ma; rw [if_pos c]; rfl
   rw [e] at hf
   by_cases d : b = aV x
   ·rw [d]
    refine hx ?_
    unfold Jk.jl at c
    rw [Bool.and_eq_true] at c
    exact c.1
   ·rw [if_neg d] at hf
    exact h.snd b hb hf
  ·have e : k.ma s x = s := by unfold Jk.ma; rw [if_neg c]
   rw [e] at hf
   exact h.snd b hb hf
 ·rw [ma_ep] at hb
  obtain ⟨q1, q2, q3⟩ := h.ea b hb
  exact ⟨q1, by rw [le.f b q2]; exact q2, q3⟩
theorem Sn.mas {X : Int -> Prop} (h : Sn k C s) (m : Mg k X s) (a : Int) : ∀ n : Nat, (∀ i : Nat, i < n -> k.jt (k.ld (a + 1 + i)) = true -> C (aV (k.ld (a + 1 + i)))) -> Sn k C (k.mas s a n)
 | 0, _ => h
 | n + 1, hC => by
  have h1 := Sn.mas h m a n (fun i hi => hC i (by omega))
  obtain ⟨m1, _⟩ := m.mas a n
  exact h1.ma _ (hC n (by omega)) (m1.ma _).2.1
theorem Sn.l1 (h : Sn k C s) (m : Mg k (fun _ => False) s) (hC : Clg k C) (hl : 0 < s.td.length) : Sn k C (k.l1 s) := by
 obtain ⟨x, hx⟩ : ∃ x, s.td.getD (s.td.length - 1) 0 = x := ⟨_, rfl⟩
 have hm : x ∈ s.td := by
  rw [<- hx, List.getD_eq_getElem?_getD, List.getElem?_eq_getElem (by omega)]
  exact List.getElem_mem _
 have hT := m.ji.td x hm
 have hf := m.td x hm
 have hc := h.snd x hT hf
 have e1 : k.l1 s = k.lk { s with td := s.td.take (s.td.length - 1) } x := by unfold Jk.l1; rw [hx]
 have hs := m.ji.sum
 have el : (s.td.take (s.td.length - 1)).length = s.td.length - 1 := by rw [List.length_take]; omega
 have m0 : Mg k (fun b => b ∈ s.td) { s with td := s.td.take (s.td.length - 1) } := ⟨⟨m.ji.nd, m.ji.ps, fun a ha => m.ji.td a (List.mem_of_mem_take ha), m.ji.ep, m.ji.tl, by
  show k.lost s + (s.td.take (s.td.length - 1)).length + s.ep.length <= _
  omega⟩, m.self, fun a ha => m.td a (List.mem_of_mem_take ha), fun a ha hfa => by
  rcases m.cmp a ha hfa with q | q | q
  ·exact Or.inr (Or.inl q)
  ·exact absurd q id
  ·exact Or.inr (Or.inr ⟨q.p, q.w, q.e⟩)⟩
 have h0 : Sn k C { s with td := s.td.take (s.td.length - 1) } := ⟨h.snd, h.ea⟩
 rw [e1]
 unfold Jk.lk
 by_cases c1 : pk (k.ld x) = 1 \/ pk (k.ld x) = 2
 ·rw [if_pos c1]
  exact h0.mas m0 x _ (fun i hi => hC.p x hT hc c1 i (by omega))
 ·rw [if_neg c1]
  by_cases c3 : pk (k.ld x) = 3
  ·rw [if_pos c3]
   exact h0.ma _ (hC.w x hT hc c3) (m0.ma _).2.1
  ·rw [if_neg c3]
   by_cases c4 : pk (k.ld x) = 4
   ·rw [if_pos c4]
    refine ⟨h.snd, fun b hb => ?_⟩
    rcases List.mem_append.1 hb with hb | hb
    ·exact h.ea b hb
    ·rw [List.mem_singleton.1 hb]
     exact ⟨hT, hf, c4⟩
   ·rw [if_neg c4]
    exact h0
theorem Sn.lm (hC : Clg k C) : ∀ (n : Nat) {s : Js}, Sn k C s -> Mg k (fun _ => False) s -> Sn k C (k.lm n s)
 | 0, s, h, _ => h
 | n + 1, s, h, m => by
  unfold Jk.lm
  by_cases c : 0 < s.td.length
  ·rw [if_pos c]
   exact Sn.lm hC n (h.l1 m hC c) (m.l1 c).1
  ·rw [if_neg c]
   exact h
theorem Sn.kvl (hC : Clg k C) : ∀ (l : List Int) {t : List Int × Js}, Sn k C t.2 -> Mg k (fun _ => False) t.2 -> (∀ a ∈ l, a ∈ k.T /\ t.2.f a ≠ -1 /\ pk (k.ld a) = 4) -> Sn k C (l.foldl k.kv1 t).2 /\ ∀ a ∈ (l.foldl k.kv1 t).1, a ∈ t.1 \/ a ∈ l
 | [], t, h, _, _ => ⟨h, fun _ ha => Or.inl ha⟩
 | a :: l, t, h, m, hl => by
  rw [List.foldl_cons]
  obtain ⟨a1, a2, a3⟩ := hl a (by simp)
  by_cases c : k.jl t.2 (k.ld (a + 1)) = true
  ·have e : k.kv1 t a = (t.1 ++ [a], t.2) := by unfold Jk.kv1; rw [if_pos c]
   rw [e]
   obtain ⟨i1, i2⟩ := Sn.kvl hC l (t := (t.1 ++ [a], t.2)) h m (fun b hb => hl b (List.mem_cons_of_mem _ hb))
   refine ⟨i1, fun b hb => ?_⟩
   rcases i2 b hb with q | q
   ·rcases List.mem_append.1 q with q | q
    ·exact Or.inl q
    ·exact Or.inr (by rw [List.mem_singleton.1 q]; simp)
   ·exact Or.inr (List.mem_cons_of_mem _ q)
  ·have e : k.kv1 t a = (t.1, k.ma t.2 (k.ld (a + 2))) := by unfold Jk.kv1; rw [if_neg c]
   rw [e]
   obtain ⟨m1, m2, _⟩ := m.ma (k.ld (a + 2))
   have h1 := h.ma (k.ld (a + 2)) (hC.e a a1 (h.snd a a1 a2) a3 (h.jl (by simpa using c))) m2
   obtain ⟨i1, i2⟩ := Sn.kvl hC l (t := (t.1, k.ma t.2 (k.ld (a + 2)))) h1 m1 (fun b hb => by
    obtain ⟨b1, b2, b3⟩ := hl b (List.mem_cons_of_mem _ hb)
    exact ⟨b1, by rw [m2.f b b2]; exact b2, b3⟩)
   exact ⟨i1, fun b hb => (i2 b hb).imp id (fun q => List.mem_cons_of_mem _ q)⟩
theorem Sn.kv (hC : Clg k C) (h : Sn k C s) (m : Mg k (fun _ => False) s) : Sn k C (k.kv s).2 := by
 obtain ⟨h1, h2⟩ := Sn.kvl hC s.ep (t := ([], s)) h m h.ea
 obtain ⟨_, le, _⟩ := Mg.kvl s.ep (t := ([], s)) m
 refine ⟨h1.snd, fun b hb => ?_⟩
 have hb : b ∈ (s.ep.foldl k.kv1 ([], s)).1 := hb
 rcases h2 b hb with q | q
 ·cases q
 ·obtain ⟨q1, q2, q3⟩ := h.ea b q
  exact ⟨q1, by show (s.ep.foldl k.kv1 ([], s)).2.f b ≠ -1; rw [le.f b q2]; exact q2, q3⟩
theorem Sn.wal (q : List En) (hQ : Cqg k C q) : ∀ (l : List Nat) (t : (Js × List En) × Bool), t.1.2 = q -> (∀ i ∈ l, i < q.length) -> Sn k C t.1.1 -> Mg k (fun _ => False) t.1.1 -> Sn k C (l.foldl (wkP k.al k.mp) t).1.1
 | [], t, _, _, h, _ => h
 | i :: l, t, e, hl, h, m => by
  rw [List.foldl_cons]
  have hi := hl i (by simp)
  by_cases c : (k.al t.1.1 (t.1.2.getD i (0, 0)).2 || !k.al t.1.1 (t.1.2.getD i (0, 0)).1) = true
  ·have e1 : wkP k.al k.mp t i = t := by unfold wkP; rw [if_pos c]
   rw [e1]
   exact Sn.wal q hQ l t e (fun j hj => hl j (List.mem_cons_of_mem _ hj)) h m
  ·have e1 : wkP k.al k.mp t i = ((k.ma t.1.1 (t.1.2.getD i (0, 0)).2, t.1.2), true) := by
    unfold wkP
    rw [if_neg c]
    show ((k.ma t.1.1 (t.1.2.getD i (0, 0)).2, t.1.2.set i ((t.1.2.getD i (0, 0)).1, (t.1.2.getD i (0, 0)).2)), true) = _
    have e2 : t.1.2.set i ((t.1.2.getD i (0, 0)).1, (t.1.2.getD i (0, 0)).2) = t.1.2 := set_getD _ _ _
    rw [e2]
   rw [e1]
   have hm : t.1.2.getD i (0, 0) ∈ q := by
    rw [e, List.getD_eq_getElem?_getD, List.getElem?_eq_getElem hi]
    exact List.getElem_mem hi
   have hg : k.al t.1.1 (t.1.2.getD i (0, 0)).1 = true := by
    cases hh : k.al t.1.1 (t.1.2.getD i (0, 0)).1
    ·exact absurd (by rw [hh]; simp) c
    ·rfl
   obtain ⟨m1, m2, _⟩ := m.ma (t.1.2.getD i (0, 0)).2
   exact Sn.wal q hQ l _ e (fun j hj => hl j (List.mem_cons_of_mem _ hj)) (h.ma _ (hQ _ hm (h.al hg)) m2) m1
theorem Sn.spr (hC : Clg k C) : ∀ (n : Nat) (t : Js × List En), Cqg k C t.2 -> Sn k C t.1 -> Mg k (fun _ => False) t.1 -> Sn k C (k.spr n t).1
 | 0, t, _, h, _ => h
 | n + 1, t, hQ, h, m => by
  obtain ⟨l1, _⟩ := m.LM
  have h1 : Sn k C (k.LM t.1) := Sn.lm hC _ h m
  have h2 := Sn.kv hC h1 l1
  obtain ⟨v1, _⟩ := l1.kv
  have h3 : Sn k C (k.wa ((k.kv (k.LM t.1)).2, t.2)).1.1 := Sn.wal t.2 hQ _ (((k.kv (k.LM t.1)).2, t.2), false) rfl (fun i hi => by simpa using hi) h2 v1
  obtain ⟨w1, _, w3, _⟩ := Mg.wa (t := ((k.kv (k.LM t.1)).2, t.2)) v1
  unfold Jk.spr
  split
  ·exact Sn.spr hC n _ hQ h2 v1
  ·split
   ·exact Sn.spr hC n _ (by rw [w3]; exact hQ) h3 w1
   ·exact h3
theorem Sn.ke (hC : Clg k C) {t : Js × List En} (hQ : Cqg k C t.2) (h : Sn k C t.1) (m : Mg k (fun _ => False) t.1) (x : Int) (hx : k.jt x = true -> C (aV x)) : Sn k C (k.ke t x).2.1 := by
 obtain ⟨m1, m2, _⟩ := m.ma x
 exact Sn.spr hC _ (k.ma t.1 x, t.2) hQ (h.ma x hx m2) m1
theorem Sn.cm (hC : Clg k C) {t : Js × List En} (hQ : Cqg k C t.2) (h : Sn k C t.1) (d : Dn k t.1 t.2) (e : En) (he : (k.jt e.1 = true -> C (aV e.1)) -> k.jt e.2 = true -> C (aV e.2)) : Sn k C (k.cmJ t e).2.1 /\ Cqg k C (k.cmJ t e).2.2 := by
 unfold Jk.cmJ
 cases c : k.al t.1 e.1
 ·rw [cm_no (o := noSd Js) (is := fun s x => k.al s.1 x) (kp := k.ke) (s := t) (e := e) c]
  exact ⟨h, hQ⟩
 ·rw [cm_yes (o := noSd Js) (is := fun s x => k.al s.1 x) (kp := k.ke) (s := t) (e := e) c]
  obtain ⟨_, _, h3, _⟩ := d.mg.ke e.2
  show Sn k C (k.ke t e.2).2.1 /\ Cqg k C ((k.ke t e.2).2.2 ++ [(e.1, e.2)])
  refine ⟨Sn.ke hC hQ h d.mg e.2 (he (h.al c)), fun b hb => ?_⟩
  rw [h3] at hb
  rcases List.mem_append.1 hb with hb | hb
  ·exact hQ b hb
  ·rw [List.mem_singleton.1 hb]
   exact he
theorem Sn.pl (hC : Clg k C) : ∀ (l : List En) (u : List En × List En × (Js × List En)), Cqg k C l -> Cqg k C u.2.2.2 -> Sn k C u.2.2.1 -> Dn k u.2.2.1 u.2.2.2 -> Sn k C (l.foldl (pstep k.cmJ) u).2.2.1 /\ Cqg k C (l.foldl (pstep k.cmJ) u).2.2.2
 | [], u, _, hQ, h, _ => ⟨h, hQ⟩
 | e :: l, u, hR, hQ, h, d => by
  rw [List.foldl_cons]
  have key : (pstep k.cmJ u e).2.2 = (k.cmJ u.2.2 e).2 := by
   unfold pstep
   split <;> rfl
  obtain ⟨c1, c2⟩ := Sn.cm hC hQ h d e (hR e (by simp))
  obtain ⟨d1, _⟩ := d.cm e
  rw [<- key] at c1 c2 d1
  exact Sn.pl hC l (pstep k.cmJ u e) (fun b hb => hR b (List.mem_cons_of_mem _ hb)) c2 c1 d1
theorem Sn.trn (hC : Clg k C) : ∀ (n : Nat) (t : Js × List En) (d : List En), Cqg k C d -> Cqg k C t.2 -> Sn k C t.1 -> Dn k t.1 t.2 -> Sn k C (trn k.cmJ n t d).1.1
 | 0, t, d, _, _, h, _ => h
 | n + 1, t, d, hR, hQ, h, hd => by
  obtain ⟨s1, s2⟩ := Sn.pl hC d ([], [], t) hR hQ h hd
  obtain ⟨p1, _⟩ := Dn.pl d ([], [], t) hd
  have s1 : Sn k C (pts k.cmJ t d).2.2.1 := s1
  have s2 : Cqg k C (pts k.cmJ t d).2.2.2 := s2
  have p1 : Dn k (pts k.cmJ t d).2.2.1 (pts k.cmJ t d).2.2.2 := p1
  by_cases c : (pts k.cmJ t d).1.length = 0
  ·rw [trn_stop _ _ _ _ c]
   exact s1
  ·rw [trn_go _ _ _ _ c]
   exact Sn.trn hC n (pts k.cmJ t d).2.2 (pts k.cmJ t d).2.1 (fun e he => hR e (pts_mem k.cmJ t d e (Or.inr he))) s2 s1 p1
theorem settled_least {a : Wc} {S : Ww} (hI : JI (S.s.j0 a) js0) (hC : Clg (S.s.j0 a) C) (hQ : Cqg (S.s.j0 a) C S.q) (hR : ∀ e ∈ S.r, (S.s.j0 a).al (S.j2 a).1 e.2 = false -> ((S.s.j0 a).jt e.1 = true -> C (aV e.1)) -> (S.s.j0 a).jt e.2 = true -> C (aV e.2)) : Sn (S.s.j0 a) C (S.j3 a) := by
 have kr : ∀ n, n <= 12 -> Sn (S.s.j0 a) C ((S.s.j0 a).kr js0 n) := fun n => by
  induction n with
  | zero =>
   intro _
   show Sn (S.s.j0 a) C js0
   exact ⟨fun _ _ hf => absurd rfl hf, fun _ ha => by simp [js0] at ha⟩
  | succ n ih =>
   intro hn
   obtain ⟨m1, _⟩ := (Mg.start (X := fun _ => False) hI).kr n
   exact (ih (by omega)).ma _ (hC.rt n (by omega)) (m1.ma _).2.1
 obtain ⟨m1, _⟩ := (Mg.start (X := fun _ => False) hI).kr 12
 obtain ⟨d1, _, d3⟩ := Mg.sp (t := ((S.s.j0 a).kr js0 12, S.q)) m1
 have s1 : Sn (S.s.j0 a) C (S.j2 a).1 := Sn.spr hC _ ((S.s.j0 a).kr js0 12, S.q) hQ (kr 12 (Nat.le_refl _)) m1
 have d3 : (S.j2 a).2 = S.q := d3
 exact Sn.trn hC _ (S.j2 a) _ (fun e he => by
  obtain ⟨q1, q2⟩ := List.mem_filter.1 he
  exact hR e q1 (by simpa using q2)) (by rw [d3]; exact hQ) s1 d1
end
end Go.Proofs.YtalgochmjddodaaGreat

namespace Go.Proofs.YtalgochmjddodaaGreat
open Go.RowKit W Kp Stl
section
variable {k : Jk}
theorem pl_all : ∀ (l : List En) (u : List En × List En × (Js × List En)), Dn k u.2.2.1 u.2.2.2 ->
  (∀ e ∈ u.2.2.2, e ∈ (l.foldl (pstep k.cmJ) u).2.2.2) /\ (∀ e ∈ u.2.1, e ∈ (l.foldl (pstep k.cmJ) u).2.1) /\ (∀ e ∈ l, e ∈ (l.foldl (pstep k.cmJ) u).2.2.2 \/ e ∈ (l.foldl (pstep k.cmJ) u).2.1) /\ u.1.length <= (l.foldl (pstep k.cmJ) u).1.length /\
  ((l.foldl (pstep k.cmJ) u).1.length <= u.1.length -> (l.foldl (pstep k.cmJ) u).2.2 = u.2.2 /\ ∀ e ∈ l, k.al u.2.2.1 e.1 = false)
 | [], u, _ => ⟨fun _ h => h, fun _ h => h, (fun e he => by cases he), Nat.le_refl _, fun _ => ⟨rfl, (fun e he => by cases he)⟩⟩
 | e :: l, u, d => by
  rw [List.foldl_cons]
  cases c : k.al u.2.2.1 e.1
  ·have e1 : k.cmJ u.2.2 e = (false, u.2.2) := cm_no (o := noSd Js) (is := fun s x => k.al s.1 x) (kp := k.ke) (s := u.2.2) (e := e) c
   have e2 : pstep k.cmJ u e = (u.1, u.2.1 ++ [e], u.2.2) := by unfold pstep; rw [e1]; rfl
   rw [e2]
   obtain ⟨i1, i2, i3, i4, i5⟩ := pl_all l (u.1, u.2.1 ++ [e], u.2.2) d
   refine ⟨i1, fun b hb => i2 b (List.mem_append_left _ hb), fun b hb => ?_, i4, fun q => ?_⟩
   ·rcases List.mem_cons.1 hb with h | h
    ·rw [h]
     exact Or.inr (i2 e (by simp))
    ·exact i3 b h
   ·obtain ⟨q1, q2⟩ := i5 q
    refine ⟨q1, fun b hb => ?_⟩
    rcases List.mem_cons.1 hb with h | h
    ·rw [h]; exact c
    ·exact q2 b h
  ·obtain ⟨_, _, h3, _⟩ := d.mg.ke e.2
   have e1 : k.cmJ u.2.2 e = (true, ((k.ke u.2.2 e.2).2.1, u.2.2.2 ++ [e])) := by
    refine (cm_yes (o := noSd Js) (is := fun s x => k.al s.1 x) (kp := k.ke) (s := u.2.2) (e := e) c).trans ?_
    show (true, ((k.ke u.2.2 e.2).2.1, (k.ke u.2.2 e.2).2.2 ++ [(e.1, e.2)])) = _
    rw [h3]
   have e2 : pstep k.cmJ u e = (u.1 ++ [e], u.2.1, ((k.ke u.2.2 e.2).2.1, u.2.2.2 ++ [e])) := by unfold pstep; rw [e1]; rfl
   have d2 := (d.cm e).1
   rw [e1] at d2
   rw [e2]
   obtain ⟨i1, i2, i3, i4, i5⟩ := pl_all l (u.1 ++ [e], u.2.1, ((k.ke u.2.2 e.2).2.1, u.2.2.2 ++ [e])) d2
   simp only [List.length_append, List.length_cons, List.length_nil] at i4
   refine ⟨fun b hb => i1 b (List.mem_append_left _ hb), i2, fun b hb => ?_, by omega, fun q => by omega⟩
   rcases List.mem_cons.1 hb with h | h
   ·rw [h]
    exact Or.inl (i1 e (by simp))
   ·exact i3 b h
theorem trn_all : ∀ (n : Nat) (t : Js × List En) (d : List En), Dn k t.1 t.2 -> (∀ e ∈ t.2, e ∈ (trn k.cmJ n t d).1.2) /\ (d.length < n -> ∀ e ∈ d, e ∈ (trn k.cmJ n t d).1.2 \/ k.al (trn k.cmJ n t d).1.1 e.1 = false)
 | 0, t, d, _ => ⟨fun _ h => h, fun q => by omega⟩
 | n + 1, t, d, hd => by
  obtain ⟨p1, p2, p3, p4, p5⟩ := pl_all (k := k) d ([], [], t) hd
  have p1 : ∀ e ∈ t.2, e ∈ (pts k.cmJ t d).2.2.2 := p1
  have p3 : ∀ e ∈ d, e ∈ (pts k.cmJ t d).2.2.2 \/ e ∈ (pts k.cmJ t d).2.1 := p3
  have hl := pts_len k.cmJ t d
  by_cases c : (pts k.cmJ t d).1.length = 0
  ·rw [trn_stop _ _ _ _ c]
   have p5 := p5 (by show (pts k.cmJ t d).1.length <= 0; omega)
   have q1 : (pts k.cmJ t d).2.2 = t := p5.1
   refine ⟨fun e he => p1 e he, fun _ e he => Or.inr ?_⟩
   show k.al (pts k.cmJ t d).2.2.1 e.1 = false
   rw [q1]
   exact p5.2 e he
  ·rw [trn_go _ _ _ _ c]
   have d1 : Dn k (pts k.cmJ t d).2.2.1 (pts k.cmJ t d).2.2.2 := (Dn.pl d ([], [], t) hd).1
   obtain ⟨i1, i2⟩ := trn_all n (pts k.cmJ t d).2.2 (pts k.cmJ t d).2.1 d1
   refine ⟨fun e he => i1 e (p1 e he), fun q e he => ?_⟩
   rcases p3 e he with h | h
   ·exact Or.inl (i1 e h)
   ·exact i2 (by omega) e h
end
def Eok (k : Jk) (l : List En) : Prop := ∀ e ∈ l, k.jt e.1 = true /\ k.jt e.2 = true
section
variable {a : Wc} {S : Ww} {Y G : List Int}
theorem waits_all (hI : JI (S.s.j0 a) js0) : (∀ e ∈ S.q, e ∈ ((S.s.j0 a).sS (S.j2 a) S.r).2) /\ ∀ e ∈ S.r, (S.s.j0 a).al (S.j2 a).1 e.2 = false -> e ∈ ((S.s.j0 a).sS (S.j2 a) S.r).2 \/ (S.s.j0 a).al (S.j3 a) e.1 = false := by
 obtain ⟨h1, _, _⟩ := (Mg.start (X := fun _ => False) hI).kr 12
 obtain ⟨d1, _, d3⟩ := Mg.sp (t := ((S.s.j0 a).kr js0 12, S.q)) h1
 have d3 : (S.j2 a).2 = S.q := d3
 have d1 : Dn (S.s.j0 a) (S.j2 a).1 (S.j2 a).2 := d1
 obtain ⟨t1, t2⟩ := trn_all (k := S.s.j0 a) ((S.r.filter (fun e => !(S.s.j0 a).al (S.j2 a).1 e.2)).length + 1) (S.j2 a) (S.r.filter (fun e => !(S.s.j0 a).al (S.j2 a).1 e.2)) d1
 rw [d3] at t1
 exact ⟨t1, fun e he hd => t2 (by omega) e (List.mem_filter.2 ⟨he, by rw [hd]; rfl⟩)⟩
theorem q5_of (h : KInv a S.s Y G) (hb : Wbd a S.s) (hf : S.jfull a = false) : (S.gcut a).q = (((S.s.j0 a).sS (S.j2 a) S.r).2.filter (fun e => (S.s.j0 a).al (S.j3 a) e.1)).map (fun e => ((S.s.j0 a).nw (S.j4 a) e.1, (S.s.j0 a).nw (S.j4 a) e.2)) := by
 have hI : JI (S.s.j0 a) js0 := JI.start hb.n1 hb.o1 hb.y1 hb.g1
 obtain ⟨d1, d2, d3⟩ := settled_all (S := S) hI
 obtain ⟨_, l2, l3⟩ := j0_lists h.inv.full hb
 obtain ⟨_, g, e5⟩ := great_in h hb hf
 obtain ⟨_, t2, t3, _⟩ := tlA_ld (s := S.j4 a) (k := S.s.j0 a) ⟨hb.l1, hb.y1, hb.g1⟩ hb.r1 hI.nd (j0_whl h.inv.full hb) (j0_ap h.inv.full hb)
 have t2 : (S.k5 a).Y = (S.s.j0 a).Y := t2
 have t3 : (S.k5 a).G = (S.s.j0 a).G := t3
 have hT5 : (S.k5 a).T = (S.s.j0 a).T := by unfold Jk.T; rw [t2, t3]
 have hjl : ∀ x, (S.k5 a).al (S.j4 a) x = (S.s.j0 a).al (S.j3 a) x := fun x => by
  have q0 : (S.k5 a).jl (S.j4 a) x = (S.s.j0 a).jl (S.j4 a) x := by
   unfold Jk.jl Jk.jt
   rw [hT5]
  unfold Jk.al
  rw [q0]
  cases hj : (S.s.j0 a).jt x
  ·unfold Jk.jl
   rw [hj]
   rfl
  ·have hmem := jt_mem hj
   rw [l3] at hmem
   have q := g.iff _ hmem
   unfold Jk.jl
   rw [hj, Bool.true_and, Bool.true_and]
   by_cases c : (S.j3 a).f (aV x) = -1
   ·rw [c, q.2 c]
   ·rw [beq_false_of_ne c, beq_false_of_ne (fun d => c (q.1 d))]
 have q3 : S.q3 a = ((S.s.j0 a).sS (S.j2 a) S.r).2.filter (fun e => (S.s.j0 a).al (S.j3 a) e.1) := by
  show ((((S.s.j0 a).sS (S.j2 a) S.r).2.filter (fun e => (S.s.j0 a).al (S.j3 a) e.1)).map fun e => ((S.s.j0 a).nw (S.j3 a) e.1, (S.s.j0 a).nw (S.j3 a) e.2)) = _
  have : (fun e : En => ((S.s.j0 a).nw (S.j3 a) e.1, (S.s.j0 a).nw (S.j3 a) e.2)) = id := by
   funext e
   rw [d1.mg.nw, d1.mg.nw]
   rfl
  rw [this, List.map_id]
 have eS : (S.k5 a).tS (S.j4 a, S.q3 a) (S.r3 a) = (S.j4 a, S.q3 a) := tS_same (fun e he => by
  show (S.k5 a).al (S.j4 a) e.2 = true
  rw [hjl]
  exact r3_alive (S := S) hI e he)
 unfold Ww.gcut
 rw [hf, if_neg (by simp)]
 show stQ (noSd Js) (fun s x => (S.k5 a).al s.1 x) (S.k5 a).mq (fun s x => (S.k5 a).nw s.1 x) (S.j4 a, S.q3 a) (S.r3 a) = _
 unfold stQ
 have e : stS (noSd Js) (fun s x => (S.k5 a).al s.1 x) (S.k5 a).mq (S.j4 a, S.q3 a) (S.r3 a) = (S.j4 a, S.q3 a) := eS
 rw [e]
 show ((S.q3 a).filter (fun e => (S.k5 a).al (S.j4 a) e.1)).map (fun e => ((S.k5 a).nw (S.j4 a) e.1, (S.k5 a).nw (S.j4 a) e.2)) = _
 have e1 : (S.q3 a).filter (fun e => (S.k5 a).al (S.j4 a) e.1) = S.q3 a := List.filter_eq_self.2 (fun e he => by
  rw [hjl]
  rw [q3] at he
  exact (List.mem_filter.1 he).2)
 rw [e1, q3]
 refine List.map_congr_left (fun e _ => ?_)
 rw [Jk.nw_of (k := S.k5 a) (k0 := S.s.j0 a) _ _ t2 t3, Jk.nw_of (k := S.k5 a) (k0 := S.s.j0 a) _ _ t2 t3]
end
end Go.Proofs.YtalgochmjddodaaGreat

namespace Go.Proofs.YtalgochmjddodaaGreat
set_option maxHeartbeats 1000000
open Go.RowKit W Kp Stl
theorem spread_all {a : Wc} {S : Ww} (hI : JI (S.s.j0 a) js0) : Dn (S.s.j0 a) (S.j2 a).1 S.q /\ (S.j2 a).2 = S.q /\ ∀ i, i < 12 -> (S.s.j0 a).jl (S.j2 a).1 (S.s.rs.getD i 0) = false := by
 obtain ⟨h1, _, h3⟩ := (Mg.start (X := fun _ => False) hI).kr 12
 obtain ⟨d1, d2, d3⟩ := Mg.sp (t := ((S.s.j0 a).kr js0 12, S.q)) h1
 have d1 : Dn (S.s.j0 a) (S.j2 a).1 (S.j2 a).2 := d1
 have d2 : Mle (S.s.j0 a) ((S.s.j0 a).kr js0 12) (S.j2 a).1 := d2
 have d3 : (S.j2 a).2 = S.q := d3
 rw [d3] at d1
 exact ⟨d1, d3, fun i hi => d2.jl (h3 i hi)⟩
theorem nw_to {k : Jk} {j : Js} {x : Int} (hj : k.jt x = true) (hf : j.f (aV x) ≠ -1) (hb : 0 <= j.f (aV x) /\ j.f (aV x) < 1000000) : k.nw j x = ew 3 (j.f (aV x)) /\ aB (k.nw j x) = true /\ aV (k.nw j x) = j.f (aV x) := by
 have e : k.nw j x = ew 3 (j.f (aV x)) := by
  unfold Jk.nw
  rw [hj, beq_false_of_ne hf]
  rfl
 obtain ⟨n, hn⟩ : ∃ n : Nat, j.f (aV x) = n := ⟨(j.f (aV x)).toNat, by omega⟩
 obtain ⟨w1, w2⟩ := ew_at n (by omega)
 rw [e, hn]
 exact ⟨rfl, w1, w2⟩
section
variable {a : Wc} {S : Ww} {Y G : List Int}
theorem again_all (h : KInv a S.s Y G) (hb : Wbd a S.s) (hf : S.jfull a = false) (hr : Eok (S.s.j0 a) S.r) (hq : Eok (S.s.j0 a) S.q) : ∀ v ∈ (S.j4 a).lf (G ++ Y), ((S.gcut a).j2 a).1.f v ≠ -1 := by
  have hI : JI (S.s.j0 a) js0 := JI.start hb.n1 hb.o1 hb.y1 hb.g1
  obtain ⟨d1, _, _⟩ := settled_all (S := S) hI
  obtain ⟨_, _, l3⟩ := j0_lists h.inv.full hb
  obtain ⟨_, g, _⟩ := great_in h hb hf
  obtain ⟨K1, B1⟩ := g.gc.inv h hb g.al
  have hI1 : JI ((S.gcut a).s.j0 a) js0 := JI.start B1.n1 B1.o1 B1.y1 B1.g1
  obtain ⟨d2, _, r2⟩ := spread_all (S := S.gcut a) hI1
  obtain ⟨w1, w2⟩ := waits_all (S := S) hI
  have hq5 := q5_of h hb hf
  have hq3 : ∀ e ∈ ((S.s.j0 a).sS (S.j2 a) S.r).2, (S.s.j0 a).jt e.1 = true /\ (S.s.j0 a).jt e.2 = true := by
    obtain ⟨h1, _, _⟩ := (Mg.start (X := fun _ => False) hI).kr 12
    obtain ⟨dd1, _, dd3⟩ := Mg.sp (t := ((S.s.j0 a).kr js0 12, S.q)) h1
    have dd3 : (S.j2 a).2 = S.q := dd3
    have dd1 : Dn (S.s.j0 a) (S.j2 a).1 (S.j2 a).2 := dd1
    have key : ∀ (n : Nat) (t : Js × List En) (d : List En), Dn (S.s.j0 a) t.1 t.2 -> Eok (S.s.j0 a) t.2 -> Eok (S.s.j0 a) d -> Eok (S.s.j0 a) (trn (S.s.j0 a).cmJ n t d).1.2 := fun n => by
      have pl : ∀ (l : List En) (u : List En × List En × (Js × List En)), Dn (S.s.j0 a) u.2.2.1 u.2.2.2 -> Eok (S.s.j0 a) u.2.2.2 -> Eok (S.s.j0 a) l -> Eok (S.s.j0 a) (l.foldl (pstep (S.s.j0 a).cmJ) u).2.2.2 := fun l => by
        induction l with
        | nil => intro u _ hu _; exact hu
        | cons e l ih =>
          intro u du hu hl
          rw [List.foldl_cons]
          have kk : (pstep (S.s.j0 a).cmJ u e).2.2 = ((S.s.j0 a).cmJ u.2.2 e).2 := by
            unfold pstep
            split <;> rfl
          have dc := (du.cm e).1
          refine ih _ (by rw [kk]; exact dc) ?_ (fun b hb => hl b (List.mem_cons_of_mem _ hb))
          rw [kk]
          cases c : (S.s.j0 a).al u.2.2.1 e.1
          · have e1 : (S.s.j0 a).cmJ u.2.2 e = (false, u.2.2) := cm_no (o := noSd Js) (is := fun s x => (S.s.j0 a).al s.1 x) (kp := (S.s.j0 a).ke) (s := u.2.2) (e := e) c
            rw [e1]
            exact hu
          · obtain ⟨_, _, h3, _⟩ := du.mg.ke e.2
            have e1 : (S.s.j0 a).cmJ u.2.2 e = (true, (((S.s.j0 a).ke u.2.2 e.2).2.1, u.2.2.2 ++ [e])) := by
              refine (cm_yes (o := noSd Js) (is := fun s x => (S.s.j0 a).al s.1 x) (kp := (S.s.j0 a).ke) (s := u.2.2) (e := e) c).trans ?_
              show (true, (((S.s.j0 a).ke u.2.2 e.2).2.1, ((S.s.j0 a).ke u.2.2 e.2).2.2 ++ [(e.1, e.2)])) = _
              rw [h3]
            rw [e1]
            intro b hb
            rcases List.mem_append.1 hb with hb | hb
            · exact hu b hb
            · rw [List.mem_singleton.1 hb]
              exact hl e (by simp)
      induction n with
      | zero => intro t d _ ht _; exact ht
      | succ n ih =>
        intro t d dt ht hd
        have p1 : Eok (S.s.j0 a) (pts (S.s.j0 a).cmJ t d).2.2.2 := pl d ([], [], t) dt ht hd
        by_cases c : (pts (S.s.j0 a).cmJ t d).1.length = 0
        · rw [trn_stop _ _ _ _ c]
          exact p1
        · rw [trn_go _ _ _ _ c]
          exact ih _ _ (Dn.pl d ([], [], t) dt).1 p1 (fun e he => hd e (pts_mem _ t d e (Or.inr he)))
    exact key _ (S.j2 a) _ dd1 (by rw [dd3]; exact hq) (fun e he => hr e (List.mem_filter.1 he).1)
  obtain ⟨_, _, l31⟩ := j0_lists K1.inv.full B1
  rw [List.append_nil] at l31
  have hN := hb.n1
  have hO := hb.o1
  have hgo := g.gc.g
  generalize S.j4 a = j at *
  have bnd : ∀ c ∈ G ++ Y, j.f c ≠ -1 -> 0 <= j.f c /\ j.f c < 1000000 := fun c hc hfc => by
    have q1 := g.gc.bd c hc hfc
    have q2 := pf_bd (ld a.N S.s.y S.s.g S.s.ws c)
    omega
  have y0 := g.gc.y
  obtain ⟨s2, hs2⟩ : ∃ s2, ((S.gcut a).j2 a).1 = s2 := ⟨_, rfl⟩
  obtain ⟨k1, hk1⟩ : ∃ k1, (S.gcut a).s.j0 a = k1 := ⟨_, rfl⟩
  have k1ld : ∀ x, k1.ld x = ld a.N 0 (S.gcut a).s.g (S.gcut a).s.ws x := fun x => by
    rw [<- hk1, <- y0]
    rfl
  rw [hs2, hk1] at d2 r2
  rw [hk1] at l31
  rw [hs2]
  -- a word that leads to what is alive, and where it leads then
  have wd : ∀ x, (S.s.j0 a).jt x = true -> j.f (aV x) ≠ -1 -> k1.jt ((S.s.j0 a).nw j x) = true /\ aV ((S.s.j0 a).nw j x) = j.f (aV x) := fun x hj hfx => by
    have hm := jt_mem hj
    rw [l3] at hm
    obtain ⟨_, q2, q3⟩ := nw_to hj hfx (bnd _ hm hfx)
    refine ⟨?_, q3⟩
    unfold Jk.jt
    rw [q2, q3, l31, List.contains_iff_mem.2 (lf_mem.2 ⟨_, hm, hfx, rfl⟩)]
    rfl
  have live : ∀ x, (S.s.j0 a).jt x = true -> j.f (aV x) ≠ -1 -> k1.jl s2 ((S.s.j0 a).nw j x) = false -> s2.f (j.f (aV x)) ≠ -1 := fun x hj hfx hl => by
    obtain ⟨q1, q2⟩ := wd x hj hfx
    rw [Jk.jl_no q1, q2] at hl
    exact hl
  have mgk : ∀ c ∈ G ++ Y, j.f c ≠ -1 -> s2.f (j.f c) ≠ -1 -> Mgk k1 s2 (j.f c) := fun c hc hfc hl => by
    rcases d2.mg.cmp (j.f c) (by rw [l31]; exact lf_mem.2 ⟨c, hc, hfc, rfl⟩) hl with q | q | q
    · rw [d2.td] at q; cases q
    · exact absurd q id
    · exact q
  have head : ∀ c ∈ G ++ Y, j.f c ≠ -1 -> k1.ld (j.f c) = (S.s.j0 a).ld c := fun c hc hfc => by rw [k1ld]; exact g.gc.hd c hc hfc
  have fld : ∀ c ∈ G ++ Y, j.f c ≠ -1 -> ∀ i, 0 <= i -> i < pf ((S.s.j0 a).ld c) -> k1.ld (j.f c + 1 + i) = (S.s.j0 a).nw j ((S.s.j0 a).bkf j c i) := fun c hc hfc i i0 i1 => by rw [k1ld]; exact g.gc.fd c hc hfc i i0 i1
  have pc0 : ∀ c ∈ G ++ Y, pc ((S.s.j0 a).ld c) = 0 := fun c hc => (j0_whl h.inv.full hb c (by rw [l3]; exact hc)).c
  have afd : ∀ c ∈ G ++ Y, j.f c ≠ -1 -> ∀ i, 0 <= i -> i < pf ((S.s.j0 a).ld c) -> ∀ x, (S.s.j0 a).bkf j c i = x -> (S.s.j0 a).jt x = true -> j.f (aV x) ≠ -1 := fun c hc hfc i i0 i1 x e hx => by
    have ha : aB x = true := by
      have q := hx
      unfold Jk.jt at q
      rw [Bool.and_eq_true] at q
      exact q.1
    have q := g.al.fd c hc hfc i i0 i1 (by rw [e]; exact ha)
    rw [e] at q
    exact q.2
  have wait : ∀ e ∈ ((S.s.j0 a).sS (S.j2 a) S.r).2, ((S.s.j0 a).jt e.1 = true -> aV e.1 ∈ G ++ Y /\ j.f (aV e.1) ≠ -1 /\ s2.f (j.f (aV e.1)) ≠ -1) -> (S.s.j0 a).jt e.2 = true -> aV e.2 ∈ G ++ Y /\ j.f (aV e.2) ≠ -1 /\ s2.f (j.f (aV e.2)) ≠ -1 := fun e he hg hx => by
    obtain ⟨e1, e2⟩ := hq3 e he
    obtain ⟨c1, c2, c3⟩ := hg e1
    have hm := jt_mem hx
    rw [l3] at hm
    have alg : (S.s.j0 a).al (S.j3 a) e.1 = true := by
      unfold Jk.al
      rw [(Jk.jl_no e1).2 (fun q => c2 ((g.iff _ c1).2 q))]
      rfl
    have alx : (S.s.j0 a).al (S.j3 a) e.2 = true := by
      rcases d1.wq e he with q | q
      · exact q
      · rw [alg] at q; cases q
    have fx : j.f (aV e.2) ≠ -1 := fun q => by
      unfold Jk.al at alx
      have q2 : (S.s.j0 a).jl (S.j3 a) e.2 = false := by simpa using alx
      exact (Jk.jl_no hx).1 q2 ((g.iff _ hm).1 q)
    have hin : ((S.s.j0 a).nw j e.1, (S.s.j0 a).nw j e.2) ∈ (S.gcut a).q := by
      rw [hq5]
      exact List.mem_map.2 ⟨e, List.mem_filter.2 ⟨he, alg⟩, rfl⟩
    refine ⟨hm, fx, ?_⟩
    have q := d2.wq _ hin
    obtain ⟨u1, u2⟩ := wd e.1 e1 c2
    rcases q with q | q
    · refine live e.2 hx fx ?_
      unfold Jk.al at q
      simpa using q
    · exfalso
      unfold Jk.al at q
      have q2 : k1.jl s2 ((S.s.j0 a).nw j e.1) = true := by simpa using q
      have q3 := (Jk.jl_no (s := s2) u1).2 (by rw [u2]; exact c3)
      rw [q3] at q2
      cases q2
  have Sn0 := settled_least (S := S) (C := fun c => c ∈ G ++ Y /\ j.f c ≠ -1 /\ s2.f (j.f c) ≠ -1) hI
    { rt := fun i hi hj => by
        have hj : (S.s.j0 a).jt (S.s.rs.getD i 0) = true := hj
        have ha : aB (S.s.rs.getD i 0) = true := by
          have q := hj
          unfold Jk.jt at q
          rw [Bool.and_eq_true] at q
          exact q.1
        obtain ⟨q1, q2⟩ := g.al.rt i hi ha
        have q3 := r2 i hi
        rw [g.gc.rs i hi] at q3
        exact ⟨q1, q2, live _ hj q2 q3⟩
      p := fun c _ hc hk i hi hj => by
        obtain ⟨c1, c2, c3⟩ := hc
        have e := bkf_12 (k := S.s.j0 a) (j := j) hk (i : Int)
        have hfx := afd c c1 c2 i (by omega) hi _ e hj
        have hm := jt_mem hj
        rw [l3] at hm
        have q := (mgk c c1 c2 c3).p (by rw [head c c1 c2]; exact hk) i (by rw [head c c1 c2]; exact hi)
        rw [fld c c1 c2 i (by omega) hi, e] at q
        exact ⟨hm, hfx, live _ hj hfx q⟩
      w := fun c _ hc hk hj => by
        obtain ⟨c1, c2, c3⟩ := hc
        have f2 := pf_two (pc0 c c1) (Or.inr (Or.inl hk))
        have e : (S.s.j0 a).bkf j c 1 = (S.s.j0 a).ld (c + 2) := by
          unfold Jk.bkf
          rw [if_neg (fun q => by omega), show c + 1 + 1 = c + 2 from by omega]
        have hfx := afd c c1 c2 1 (by omega) (by omega) _ e hj
        have hm := jt_mem hj
        rw [l3] at hm
        have q := (mgk c c1 c2 c3).w (by rw [head c c1 c2]; exact hk)
        have q2 := fld c c1 c2 1 (by omega) (by omega)
        rw [show j.f c + 1 + 1 = j.f c + 2 from by omega, e] at q2
        rw [q2] at q
        exact ⟨hm, hfx, live _ hj hfx q⟩
      e := fun c _ hc hk hkey hj => by
        obtain ⟨c1, c2, c3⟩ := hc
        have f2 := pf_two (pc0 c c1) (Or.inr (Or.inr hk))
        have kl : (S.s.j0 a).jl j ((S.s.j0 a).ld (c + 1)) = false := by
          cases hjk : (S.s.j0 a).jt ((S.s.j0 a).ld (c + 1))
          · unfold Jk.jl
            rw [hjk]
            rfl
          · exact (Jk.jl_no hjk).2 (hkey hjk).2.1
        have e1 : (S.s.j0 a).bkf j c 1 = (S.s.j0 a).ld (c + 2) := by
          unfold Jk.bkf
          rw [if_neg (fun q => by rw [kl] at q; exact absurd q.1.2 (by simp)), show c + 1 + 1 = c + 2 from by omega]
        have e0 : (S.s.j0 a).bkf j c 0 = (S.s.j0 a).ld (c + 1) := by
          unfold Jk.bkf
          rw [if_neg (fun q => by rw [kl] at q; exact absurd q.1.2 (by simp)), Int.add_zero]
        have hfx := afd c c1 c2 1 (by omega) (by omega) _ e1 hj
        have hm := jt_mem hj
        rw [l3] at hm
        have q2 := fld c c1 c2 1 (by omega) (by omega)
        rw [show j.f c + 1 + 1 = j.f c + 2 from by omega, e1] at q2
        have q0 := fld c c1 c2 0 (by omega) (by omega)
        rw [Int.add_zero, e0] at q0
        rcases (mgk c c1 c2 c3).e (by rw [head c c1 c2]; exact hk) with q | q
        · exfalso
          have q3 := d2.ep _ q
          rw [q0] at q3
          cases hjk : (S.s.j0 a).jt ((S.s.j0 a).ld (c + 1))
          · have hab : aB ((S.s.j0 a).ld (c + 1)) = false := by
              cases hab : aB ((S.s.j0 a).ld (c + 1))
              · rfl
              · have hab2 : aB (ld a.N S.s.y S.s.g S.s.ws (c + 1 + 0)) = true := by rw [Int.add_zero]; exact hab
                have hmk := h.inv.fd c (List.mem_append.1 c1).symm 0 (by omega) (by show (0 : Int) < pf ((S.s.j0 a).ld c); omega) hab2
                rw [Int.add_zero] at hmk
                have hmk : aV ((S.s.j0 a).ld (c + 1)) ∈ Y \/ aV ((S.s.j0 a).ld (c + 1)) ∈ G := hmk
                have : (S.s.j0 a).jt ((S.s.j0 a).ld (c + 1)) = true := by
                  unfold Jk.jt
                  rw [hab, l3, List.contains_iff_mem.2 (List.mem_append.2 hmk.symm)]
                  rfl
                rw [this] at hjk
                cases hjk
            have en : (S.s.j0 a).nw j ((S.s.j0 a).ld (c + 1)) = (S.s.j0 a).ld (c + 1) := by
              unfold Jk.nw
              rw [hjk]
              rfl
            rw [en] at q3
            unfold Jk.jl Jk.jt at q3
            rw [hab] at q3
            simp at q3
          · obtain ⟨_, k2, k3⟩ := hkey hjk
            obtain ⟨u1, u2⟩ := wd _ hjk k2
            have q4 := (Jk.jl_no (s := s2) u1).2 (by rw [u2]; exact k3)
            rw [q4] at q3
            cases q3
        · rw [q2] at q
          exact ⟨hm, hfx, live _ hj hfx q⟩ }
    (fun e he => wait e (w1 e he))
    (fun e he hd hg hx => by
      obtain ⟨e1, _⟩ := hr e he
      obtain ⟨c1, c2, c3⟩ := hg e1
      rcases w2 e he hd with q | q
      · exact wait e q hg hx
      · exfalso
        unfold Jk.al at q
        have q2 : (S.s.j0 a).jl (S.j3 a) e.1 = true := by simpa using q
        rw [(Jk.jl_no e1).2 (fun q => c2 ((g.iff _ c1).2 q))] at q2
        cases q2)
  intro v hv
  obtain ⟨c, c1, c2, c3⟩ := lf_mem.1 hv
  rw [<- c3]
  exact (Sn0.snd c (by rw [l3]; exact c1) (fun q => c2 ((g.iff c c1).2 q))).2.2
end
end Go.Proofs.YtalgochmjddodaaGreat

namespace Go.Proofs.YtalgochmjddodaaGreat
open Go.RowKit W Kp Stl
theorem ths_congr {N y g : Nat} {ws ws' : List Int} (h : ∀ x, ld N y g ws x = ld N y g ws' x) (hi : Int) : ∀ (k : Nat) (a : Int), ths N y g ws hi k a = ths N y g ws' hi k a
 | 0, _ => rfl
 | k + 1, a => by
  unfold ths
  rw [h a, ths_congr h hi k]
theorem vwL_congr {N y g : Nat} {ws ws' : List Int} (h : ∀ x, ld N y g ws x = ld N y g ws' x) (Q : List En) (rs : List Int) : vwL N y g ws Q rs = vwL N y g ws' Q rs := by
 have e : ld N y g ws = ld N y g ws' := funext h
 have e1 : thY N y g ws = thY N y g ws' := ths_congr h _ _ _
 have e2 : thO N y g ws = thO N y g ws' := ths_congr h _ _ _
 have e3 : shL N y g ws Q = shL N y g ws' Q := by
  funext a
  unfold shL
  rw [e]
 unfold vwL
 rw [e1, e2, e3, e]
theorem Pos.still {L : Int -> Int} {al : Int -> Bool} {f : Int -> Int} {hi : Int} : ∀ {l : List Int} {n m : Int}, Pos (fun c => pf (L c)) al f n l m -> Tile L hi n l -> (∀ c ∈ l, al c = true) -> m = hi /\ ∀ c ∈ l, f c = c
 | [], n, m, h, t, _ => by
  have h : n = m := h
  have t : n = hi := t
  exact ⟨by omega, fun c hc => by cases hc⟩
 | c :: l, n, m, h, t, ha => by
  obtain ⟨e, _, _, t2⟩ := t
  obtain ⟨h1, h2⟩ := h.1 (ha c (by simp))
  have h2 : Pos (fun c => pf (L c)) al f (n + (1 + pf (L c))) l m := h2
  rw [e] at h2
  obtain ⟨i1, i2⟩ := Pos.still h2 t2 (fun b hb => ha b (List.mem_cons_of_mem _ hb))
  refine ⟨i1, fun b hb => ?_⟩
  rcases List.mem_cons.1 hb with q | q
  ·rw [q, h1, e]
  ·exact i2 b q
theorem Tile.cover {L : Int -> Int} {hi : Int} : ∀ {l : List Int} {n : Int}, Tile L hi n l -> ∀ x, n <= x -> x < hi -> ∃ c ∈ l, ∃ i, 0 <= i /\ i <= pf (L c) /\ x = c + i
 | [], n, t, x, h1, h2 => by
  have t : n = hi := t
  omega
 | c :: l, n, t, x, h1, h2 => by
  obtain ⟨e, _, _, t2⟩ := t
  by_cases q : x <= c + pf (L c)
  ·exact ⟨c, by simp, x - c, by omega, by omega, by omega⟩
  ·obtain ⟨d, d1, i, i0, i1, i2⟩ := Tile.cover t2 x (by rw [e] at q; omega) h2
   exact ⟨d, List.mem_cons_of_mem _ d1, i, i0, i1, i2⟩
section
variable {a : Wc} {S : Ww} {G : List Int}
theorem great_still (h : KInv a S.s [] G) (hb : Wbd a S.s) (hy : S.s.y = 0) (hall : ∀ v ∈ G, (S.j2 a).1.f v ≠ -1) :
  S.gcode a = 0 /\ (S.jfull a = false /\ ∃ F, SlG (S.k5 a) (S.j5 a) F /\ F 0 (S.k5 a, 0)) /\ (S.gcut a).s.y = 0 /\ (S.gcut a).s.g = S.s.g /\ vwL a.N (S.gcut a).s.y (S.gcut a).s.g (S.gcut a).s.ws (S.gcut a).q (S.gcut a).s.rs = vwL a.N S.s.y S.s.g S.s.ws S.q S.s.rs := by
 have hI : JI (S.s.j0 a) js0 := JI.start hb.n1 hb.o1 hb.y1 hb.g1
 obtain ⟨d0, e20, _⟩ := spread_all (S := S) hI
 obtain ⟨l1, l2, l3⟩ := j0_lists h.inv.full hb
 rw [List.append_nil] at l3
 have alv : ∀ x, (S.s.j0 a).al (S.j2 a).1 x = true := fun x => by
  unfold Jk.al
  cases hj : (S.s.j0 a).jt x
  ·unfold Jk.jl
   rw [hj]
   rfl
  ·have hm := jt_mem hj
   rw [l3] at hm
   rw [(Jk.jl_no hj).2 (hall _ hm)]
   rfl
 have eS : (S.s.j0 a).sS (S.j2 a) S.r = S.j2 a := by
  have e : S.r.filter (fun e => !(S.s.j0 a).al (S.j2 a).1 e.2) = [] := by
   rw [List.filter_eq_nil_iff]
   intro e _
   rw [alv]
   simp
  show stS (noSd Js) (fun s x => (S.s.j0 a).al s.1 x) (S.s.j0 a).ke (S.j2 a) S.r = _
  unfold stS
  rw [e]
  obtain ⟨t1, t2⟩ : ∃ t1 t2, S.j2 a = (t1, t2) := ⟨_, _, rfl⟩
  rfl
 have e3 : S.j3 a = (S.j2 a).1 := by unfold Ww.j3; rw [eS]
 obtain ⟨P0, _⟩ := pl_pos (S.s.j0 a) (fun c => !((S.j3 a).f c == -1)) (S.s.j0 a).T (S.j3 a, a.N) hI.nd (fun c _ => rfl)
 rw [l3] at P0
 have P0 : Pos (fun c => pf (ld a.N S.s.y S.s.g S.s.ws c)) (fun c => !((S.j3 a).f c == -1)) ((S.s.j0 a).pl (S.j3 a)).1.f a.N G ((S.s.j0 a).pl (S.j3 a)).2 := by
  have q : (S.s.j0 a).pl (S.j3 a) = (S.s.j0 a).plL (S.j3 a, a.N) G := by unfold Jk.pl; rw [l3]; rfl
  rw [q]
  exact P0
 obtain ⟨pm, pf'⟩ := P0.still h.inv.full.to (fun c hc => by rw [e3, beq_false_of_ne (hall c hc)]; rfl)
 have hn : S.n4 a = S.s.g := by
  unfold Ww.n4
  rw [pm]
  omega
 have hf : S.jfull a = false := by
  unfold Ww.jfull
  rw [hn]
  exact decide_eq_false (by have := hb.g1; omega)
 obtain ⟨sl, g, _⟩ := great_in h hb hf
 have jf : ∀ c ∈ G, (S.j4 a).f c = c := pf'
 have hN0 : ∀ c ∈ G, (0 : Int) <= c := fun c hc => by have := (h.inv.full.to.mem c hc).1; omega
 have nlost : ∀ x, (S.s.j0 a).jl (S.j4 a) x = false := fun x => by
  cases hj : (S.s.j0 a).jt x
  ·unfold Jk.jl
   rw [hj]
   rfl
  ·have hm := jt_mem hj
   rw [l3] at hm
   exact (Jk.jl_no hj).2 (by rw [jf _ hm]; have := hN0 _ hm; omega)
 have nw : ∀ x, (S.s.j0 a).nw (S.j4 a) x = x := fun x => by
  unfold Jk.nw
  split
  ·rename_i c
   rw [Bool.and_eq_true] at c
   have ht := jt_mem c.1
   rw [l3] at ht
   have ha : aB x = true := by
    have q := c.1
    unfold Jk.jt at q
    rw [Bool.and_eq_true] at q
    exact q.1
   have h0 : dc x = 0 := by
    have q := ha
    unfold aB at q
    rw [Bool.and_eq_true] at q
    simpa using q.1
   rw [jf _ ht, aV_yes x ha]
   have q := (enc_dec x h0).2
   rw [aB_dk ha] at q
   exact q
  ·rfl
 have gg : (S.gcut a).s.g = S.s.g := by
  have := g.g
  rw [hn] at this
  omega
 have gy := g.gc.y
 have ld2 : ∀ x, ld a.N 0 S.s.g (S.gcut a).s.ws x = ld a.N 0 S.s.g S.s.ws x := fun x => by
  by_cases c : (a.N : Int) <= x /\ x < a.N + S.s.g
  ·obtain ⟨v, v1, i, i0, i1, e⟩ := h.inv.full.to.cover x c.1 c.2
   have vf : (S.j4 a).f v ≠ -1 := by rw [jf v v1]; have := hN0 v v1; omega
   have v2 : v ∈ G ++ [] := by rw [List.append_nil]; exact v1
   rw [hy] at i1
   by_cases z : i = 0
   ·have q := g.gc.hd v v2 vf
    rw [jf v v1, gg, hy] at q
    rw [e, z, Int.add_zero]
    exact q
   ·have q := g.gc.fd v v2 vf (i - 1) (by omega) (by rw [hy]; omega)
    rw [jf v v1, gg, nw] at q
    unfold Jk.bkf at q
    rw [if_neg (fun q => by rw [nlost] at q; exact absurd q.1.2 (by simp))] at q
    rw [e, show v + i = v + 1 + (i - 1) from by omega]
    refine q.trans ?_
    show ld a.N S.s.y S.s.g S.s.ws (v + 1 + (i - 1)) = _
    rw [hy]
  ·have hb2 : iB a.N 0 S.s.g x = false := by
    cases hh : iB a.N 0 S.s.g x
    ·rfl
    ·have := (iB_bool _ _ _ _).1 hh
     omega
   unfold ld
   rw [hb2]
   rfl
 have er : (S.gcut a).s.rs = S.s.rs := by
  refine List.ext_getElem (by rw [g.gc.rl, hb.r1]) (fun i h1 h2 => ?_)
  have q := g.gc.rs i (by rw [<- hb.r1]; exact h2)
  rw [nw, List.getD_eq_getElem?_getD, List.getElem?_eq_getElem h1, List.getD_eq_getElem?_getD, List.getElem?_eq_getElem h2] at q
  exact q
 have eq : (S.gcut a).q = S.q := by
  rw [q5_of h hb hf, eS, e20]
  have e1 : S.q.filter (fun e => (S.s.j0 a).al (S.j3 a) e.1) = S.q := List.filter_eq_self.2 (fun e _ => by rw [e3]; exact alv e.1)
  rw [e1]
  have : (fun e : En => ((S.s.j0 a).nw (S.j4 a) e.1, (S.s.j0 a).nw (S.j4 a) e.2)) = id := by
   funext e
   rw [nw, nw]
   rfl
  rw [this, List.map_id]
 refine ⟨by unfold Ww.gcode; rw [hf]; rfl, ⟨hf, sl⟩, gy, gg, ?_⟩
 rw [gy, gg, er, eq, hy]
 exact vwL_congr ld2 _ _
end
end Go.Proofs.YtalgochmjddodaaGreat
