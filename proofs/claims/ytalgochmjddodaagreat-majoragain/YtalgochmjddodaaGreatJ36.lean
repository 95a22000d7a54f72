/- Joined: Mg1, Mg2, Mg5, Mg3. -/
import Derived.Test.YtalgochmjddodaaGreatJ23
import Derived.Test.YtalgochmjddodaaGreatJ31
import Derived.Test.YtalgochmjddodaaGreatJ35
namespace Go.Proofs.YtalgochmjddodaaGreat
open Go.RowKit W Kp Stl
structure Mgk (k : Jk) (s : Js) (a : Int) : Prop where
  p : pk (k.ld a) = 1 \/ pk (k.ld a) = 2 -> k.flt s a
  w : pk (k.ld a) = 3 -> k.jl s (k.ld (a + 2)) = false
  e : pk (k.ld a) = 4 -> a ∈ s.ep \/ k.jl s (k.ld (a + 2)) = false
structure Mg (k : Jk) (X : Int -> Prop) (s : Js) : Prop where
  ji : JI k s
  self : ∀ a ∈ k.T, s.f a ≠ -1 -> s.f a = a
  td : ∀ a ∈ s.td, s.f a ≠ -1
  cmp : ∀ a ∈ k.T, s.f a ≠ -1 -> a ∈ s.td \/ X a \/ Mgk k s a
section
variable {k : Jk} {X : Int -> Prop} {s t : Js}
theorem Mgk.le {a : Int} (h : Mgk k s a) (l : Mle k s t) (he : ∀ b ∈ s.ep, b ∈ t.ep) : Mgk k t a :=
 ⟨fun q => l.flt (h.p q), fun q => l.jl (h.w q), fun q => (h.e q).imp (he a) l.jl⟩
theorem ma_ep (k : Jk) (s : Js) (x : Int) : (k.ma s x).ep = s.ep := by
 unfold Jk.ma
 split <;> rfl
theorem Mg.ma (h : Mg k X s) (x : Int) : Mg k X (k.ma s x) /\ Mle k s (k.ma s x) /\ k.jl (k.ma s x) x = false := by
 by_cases c : k.jl s x = true
 ·obtain ⟨h1, h2, h3⟩ := Jk.jl_yes c
  have hp := (h.ji.ps _ h2).1
  have hj : k.jt x = true := by
   unfold Jk.jl at c
   rw [Bool.and_eq_true] at c
   exact c.1
  have e : k.ma s x = { s with f := upf s.f (aV x) (aV x), td := s.td ++ [aV x] } := by unfold Jk.ma; rw [if_pos c]
  have ef : ∀ b, (k.ma s x).f b = if b = aV x then aV x else s.f b := fun b => by rw [e]; rfl
  have et : (k.ma s x).td = s.td ++ [aV x] := by rw [e]
  have le : Mle k s (k.ma s x) := ⟨fun b hb => by
   rw [ef, if_neg (fun e => hb (by rw [e]; exact h3))]⟩
  refine ⟨⟨(h.ji.ma x).1, fun b hb hf => ?_, fun b hb => ?_, fun b hb hf => ?_⟩, le, ?_⟩
  ·rw [ef] at hf ⊢
   by_cases d : b = aV x
   ·rw [if_pos d, d]
   ·rw [if_neg d] at hf ⊢; exact h.self b hb hf
  ·rw [et] at hb
   rw [ef]
   by_cases d : b = aV x
   ·rw [if_pos d]; omega
   ·rw [if_neg d]
    rcases List.mem_append.1 hb with hb | hb
    ·exact h.td b hb
    ·exact absurd (List.mem_singleton.1 hb) d
  ·rw [et]
   by_cases d : b = aV x
   ·exact Or.inl (by rw [d]; simp)
   ·rw [ef, if_neg d] at hf
    rcases h.cmp b hb hf with q | q | q
    ·exact Or.inl (List.mem_append_left _ q)
    ·exact Or.inr (Or.inl q)
    ·exact Or.inr (Or.inr (q.le le (fun b hb => by rw [ma_ep]; exact hb)))
  ·rw [Jk.jl_no hj, ef, if_pos rfl]
   omega
 ·have e : k.ma s x = s := by unfold Jk.ma; rw [if_neg c]
  rw [e]
  exact ⟨h, Mle.refl _, by simpa using c⟩
theorem mas_ep (k : Jk) (s : Js) (a : Int) : ∀ n, (k.mas s a n).ep = s.ep
 | 0 => rfl
 | n + 1 => (ma_ep _ _ _).trans (mas_ep k s a n)
theorem Mg.mas (h : Mg k X s) (a : Int) : ∀ n : Nat, Mg k X (k.mas s a n) /\ Mle k s (k.mas s a n) /\ ∀ i : Nat, i < n -> k.jl (k.mas s a n) (k.ld (a + 1 + i)) = false
 | 0 => ⟨h, Mle.refl _, fun i hi => by omega⟩
 | n + 1 => by
  obtain ⟨h1, h2, h3⟩ := Mg.mas h a n
  obtain ⟨j1, j2, j3⟩ := h1.ma (k.ld (a + 1 + n))
  refine ⟨j1, h2.trans j2, fun i hi => ?_⟩
  by_cases e : i = n
  ·rw [e]; exact j3
  ·exact j2.jl (h3 i (by omega))
theorem Mg.lk {x : Int} (h : Mg k (fun b => b = x) s) (hT : x ∈ k.T) (hr : k.lost s + s.td.length + s.ep.length + 1 <= k.T.length) : Mg k (fun _ => False) (k.lk s x) /\ Mle k s (k.lk s x) := by
 have fin : ∀ u : Js, Mg k (fun b => b = x) u -> Mgk k u x -> Mg k (fun _ => False) u := fun u hu hx => ⟨hu.ji, hu.self, hu.td, fun a ha hf => by
  rcases hu.cmp a ha hf with q | q | q
  ·exact Or.inl q
  ·rw [q]; exact Or.inr (Or.inr hx)
  ·exact Or.inr (Or.inr q)⟩
 have hJ := (h.ji.lk hT hr).1
 unfold Jk.lk at hJ ⊢
 by_cases c1 : pk (k.ld x) = 1 \/ pk (k.ld x) = 2
 ·rw [if_pos c1]
  obtain ⟨m1, m2, m3⟩ := h.mas x (pf (k.ld x)).toNat
  exact ⟨fin _ m1 ⟨fun _ i hi => m3 i (by omega), fun q => by omega, fun q => by omega⟩, m2⟩
 ·rw [if_neg c1] at hJ ⊢
  by_cases c3 : pk (k.ld x) = 3
  ·rw [if_pos c3]
   obtain ⟨m1, m2, m3⟩ := h.ma (k.ld (x + 2))
   exact ⟨fin _ m1 ⟨fun q => absurd q c1, fun _ => m3, fun q => by omega⟩, m2⟩
  ·rw [if_neg c3] at hJ ⊢
   by_cases c4 : pk (k.ld x) = 4
   ·rw [if_pos c4] at hJ ⊢
    have le : Mle k s { s with ep := s.ep ++ [x] } := ⟨fun _ _ => rfl⟩
    refine ⟨fin _ ⟨hJ, h.self, h.td, fun a ha hf => ?_⟩ ⟨fun q => absurd q c1, fun q => absurd q c3, fun _ => Or.inl (by simp)⟩, le⟩
    exact (h.cmp a ha hf).imp id (fun q => q.imp id (fun q => q.le le (fun b hb => List.mem_append_left _ hb)))
   ·rw [if_neg c4]
    exact ⟨fin _ h ⟨fun q => absurd q c1, fun q => absurd q c3, fun q => absurd q c4⟩, Mle.refl _⟩
theorem Mg.l1 (h : Mg k (fun _ => False) s) (hl : 0 < s.td.length) : Mg k (fun _ => False) (k.l1 s) /\ Mle k s (k.l1 s) := by
 obtain ⟨x, hx⟩ : ∃ x, s.td.getD (s.td.length - 1) 0 = x := ⟨_, rfl⟩
 have hm : x ∈ s.td := by
  rw [<- hx, List.getD_eq_getElem?_getD, List.getElem?_eq_getElem (by omega)]
  exact List.getElem_mem _
 have hT := h.ji.td x hm
 have htd : ∀ b, b ∈ s.td -> b ∈ s.td.take (s.td.length - 1) \/ b = x := fun b hb => by
  have e := take_snoc s.td (s.td.length - 1) (by omega) 0
  rw [show s.td.length - 1 + 1 = s.td.length from by omega, List.take_length, hx] at e
  have hb2 : b ∈ s.td.take (s.td.length - 1) ++ [x] := by
   rw [<- e]
   exact hb
  rcases List.mem_append.1 hb2 with hb | hb
  ·exact Or.inl hb
  ·exact Or.inr (List.mem_singleton.1 hb)
 have hs := h.ji.sum
 have el : (s.td.take (s.td.length - 1)).length = s.td.length - 1 := by rw [List.length_take]; omega
 have j0 : JI k { s with td := s.td.take (s.td.length - 1) } := ⟨h.ji.nd, h.ji.ps, fun a ha => h.ji.td a (List.mem_of_mem_take ha), h.ji.ep, h.ji.tl, by
  show k.lost s + (s.td.take (s.td.length - 1)).length + s.ep.length <= _
  omega⟩
 have h0 : Mg k (fun b => b = x) { s with td := s.td.take (s.td.length - 1) } := ⟨j0, h.self, fun a ha => h.td a (List.mem_of_mem_take ha), fun a ha hfa => by
  rcases h.cmp a ha hfa with q | q | q
  ·exact (htd a q).imp id Or.inl
  ·exact absurd q id
  ·exact Or.inr (Or.inr ⟨q.p, q.w, q.e⟩)⟩
 obtain ⟨m1, m2⟩ := h0.lk hT (by
  show k.lost s + (s.td.take (s.td.length - 1)).length + s.ep.length + 1 <= _
  omega)
 have e1 : k.l1 s = k.lk { s with td := s.td.take (s.td.length - 1) } x := by unfold Jk.l1; rw [hx]
 rw [e1]
 exact ⟨m1, ⟨fun b hb => m2.f b hb⟩⟩
theorem Mg.lm : ∀ (n : Nat) {s : Js}, Mg k (fun _ => False) s -> Mg k (fun _ => False) (k.lm n s) /\ Mle k s (k.lm n s)
 | 0, s, h => ⟨h, Mle.refl _⟩
 | n + 1, s, h => by
  unfold Jk.lm
  by_cases c : 0 < s.td.length
  ·rw [if_pos c]
   obtain ⟨h1, h2⟩ := h.l1 c
   obtain ⟨j1, j2⟩ := Mg.lm n h1
   exact ⟨j1, h2.trans j2⟩
  ·rw [if_neg c]
   exact ⟨h, Mle.refl _⟩
theorem Mg.LM (h : Mg k (fun _ => False) s) : Mg k (fun _ => False) (k.LM s) /\ Mle k s (k.LM s) /\ (k.LM s).td = [] := by
 obtain ⟨h1, h2⟩ := Mg.lm (k.lost s + s.td.length + 1) h
 exact ⟨h1, h2, LM_td h.ji⟩
theorem Mg.kvl : ∀ (l : List Int) {t : List Int × Js}, Mg k X t.2 -> Mg k X (l.foldl k.kv1 t).2 /\ Mle k t.2 (l.foldl k.kv1 t).2 /\ (l.foldl k.kv1 t).2.ep = t.2.ep /\ (∀ a ∈ t.1, a ∈ (l.foldl k.kv1 t).1) /\ ∀ a ∈ l, a ∈ (l.foldl k.kv1 t).1 \/ k.jl (l.foldl k.kv1 t).2 (k.ld (a + 2)) = false
 | [], t, h => ⟨h, Mle.refl _, rfl, fun _ q => q, fun a ha => by cases ha⟩
 | a :: l, t, h => by
  rw [List.foldl_cons]
  have key : Mg k X (k.kv1 t a).2 /\ Mle k t.2 (k.kv1 t a).2 /\ (k.kv1 t a).2.ep = t.2.ep /\ (∀ b ∈ t.1, b ∈ (k.kv1 t a).1) /\ (a ∈ (k.kv1 t a).1 \/ k.jl (k.kv1 t a).2 (k.ld (a + 2)) = false) := by
   unfold Jk.kv1
   split
   ·exact ⟨h, Mle.refl _, rfl, fun b hb => List.mem_append_left _ hb, Or.inl (by simp)⟩
   ·obtain ⟨m1, m2, m3⟩ := h.ma (k.ld (a + 2))
    exact ⟨m1, m2, ma_ep _ _ _, fun _ hb => hb, Or.inr m3⟩
  obtain ⟨k1, k2, k3, k4, k5⟩ := key
  obtain ⟨i1, i2, i3, i4, i5⟩ := Mg.kvl l k1
  refine ⟨i1, k2.trans i2, i3.trans k3, fun b hb => i4 b (k4 b hb), fun b hb => ?_⟩
  rcases List.mem_cons.1 hb with e | hb
  ·rw [e]
   exact k5.imp (i4 a) i2.jl
  ·exact i5 b hb
theorem Mg.kv (h : Mg k (fun _ => False) s) : Mg k (fun _ => False) (k.kv s).2 /\ Mle k s (k.kv s).2 := by
 obtain ⟨h1, h2, h3, _, h5⟩ := Mg.kvl s.ep (t := ([], s)) h
 have h1 : Mg k (fun _ => False) (k.kvf s s.ep).2 := h1
 have h2 : Mle k s (k.kvf s s.ep).2 := h2
 have h3 : (k.kvf s s.ep).2.ep = s.ep := h3
 have h5 : ∀ a ∈ s.ep, a ∈ (k.kvf s s.ep).1 \/ k.jl (k.kvf s s.ep).2 (k.ld (a + 2)) = false := h5
 have le : Mle k (k.kvf s s.ep).2 (k.kv s).2 := ⟨fun _ _ => rfl⟩
 refine ⟨⟨h.ji.kv.1, h1.self, h1.td, fun a ha hf => ?_⟩, h2.trans le⟩
 rcases h1.cmp a ha hf with q | q | q
 ·exact Or.inl q
 ·exact absurd q id
 ·refine Or.inr (Or.inr ⟨fun c => le.flt (q.p c), fun c => le.jl (q.w c), fun c => ?_⟩)
  rcases q.e c with d | d
  ·rw [h3] at d
   exact (h5 a d).imp id le.jl
  ·exact Or.inr (le.jl d)
theorem kv_none : ∀ (l : List Int) (t : List Int × Js), t.1.length + l.length <= (l.foldl k.kv1 t).1.length -> l.foldl k.kv1 t = (t.1 ++ l, t.2) /\ ∀ a ∈ l, k.jl t.2 (k.ld (a + 1)) = true
 | [], t, _ => ⟨by simp, fun a ha => by cases ha⟩
 | a :: l, t, h => by
  have hle : ∀ (l : List Int) (t : List Int × Js), (l.foldl k.kv1 t).1.length <= t.1.length + l.length := fun l => by
   induction l with
   | nil => intro t; simp
   | cons b l ih =>
    intro t
    rw [List.foldl_cons]
    have q := ih (k.kv1 t b)
    have q2 : (k.kv1 t b).1.length <= t.1.length + 1 := by
     unfold Jk.kv1
     split
     ·simp
     ·simp
    simp only [List.length_cons]
    omega
  rw [List.foldl_cons] at h ⊢
  simp only [List.length_cons] at h
  by_cases c : k.jl t.2 (k.ld (a + 1)) = true
  ·have e : k.kv1 t a = (t.1 ++ [a], t.2) := by unfold Jk.kv1; rw [if_pos c]
   rw [e] at h ⊢
   obtain ⟨q1, q2⟩ := kv_none l (t.1 ++ [a], t.2) (by simp only [List.length_append, List.length_cons, List.length_nil]; omega)
   rw [q1]
   refine ⟨by simp, fun b hb => ?_⟩
   rcases List.mem_cons.1 hb with e | hb
   ·rw [e]; exact c
   ·exact q2 b hb
  ·have e : k.kv1 t a = (t.1, k.ma t.2 (k.ld (a + 2))) := by unfold Jk.kv1; rw [if_neg c]
   rw [e] at h
   have := hle l (t.1, k.ma t.2 (k.ld (a + 2)))
   dsimp only at this
   omega
theorem kv_still (h : (k.kv s).1 = false) : (k.kv s).2 = s /\ ∀ a ∈ s.ep, k.jl s (k.ld (a + 1)) = true := by
 have h1 : ¬ (k.kvf s s.ep).1.length < s.ep.length := of_decide_eq_false h
 obtain ⟨q1, q2⟩ := kv_none (k := k) s.ep ([], s) (by
  show 0 + s.ep.length <= (k.kvf s s.ep).1.length
  omega)
 have q1 : k.kvf s s.ep = (s.ep, s) := by
  have : k.kvf s s.ep = ([] ++ s.ep, s) := q1
  simpa using this
 refine ⟨?_, q2⟩
 unfold Jk.kv
 rw [q1]
end
end Go.Proofs.YtalgochmjddodaaGreat

namespace Go.Proofs.YtalgochmjddodaaGreat
open Go.RowKit W Kp Stl
structure Dn (k : Jk) (s : Js) (q : List En) : Prop where
  mg : Mg k (fun _ => False) s
  td : s.td = []
  ep : ∀ a ∈ s.ep, k.jl s (k.ld (a + 1)) = true
  wq : ∀ e ∈ q, k.al s e.2 = true \/ k.al s e.1 = false
section
variable {k : Jk} {s : Js}
theorem al_le {t : Js} (l : Mle k s t) {x : Int} (h : k.al s x = true) : k.al t x = true := by
 unfold Jk.al at h ⊢
 rw [l.jl (by simpa using h)]
 rfl
theorem set_getD {α : Type} (l : List α) (i : Nat) (d : α) : l.set i (l.getD i d) = l := by
 by_cases h : i < l.length
 ·rw [List.getD_eq_getElem?_getD, List.getElem?_eq_getElem h]
  simp
 ·rw [List.set_eq_of_length_le (by omega)]
theorem Mg.wal : ∀ (l : List Nat) (t : (Js × List En) × Bool), Mg k (fun _ => False) t.1.1 -> Mg k (fun _ => False) (l.foldl (wkP k.al k.mp) t).1.1 /\ Mle k t.1.1 (l.foldl (wkP k.al k.mp) t).1.1 /\ (l.foldl (wkP k.al k.mp) t).1.2 = t.1.2 /\
  ((l.foldl (wkP k.al k.mp) t).2 = false -> t.2 = false /\ l.foldl (wkP k.al k.mp) t = t /\ ∀ i ∈ l, k.al t.1.1 (t.1.2.getD i (0, 0)).2 = true \/ k.al t.1.1 (t.1.2.getD i (0, 0)).1 = false)
 | [], t, h => ⟨h, Mle.refl _, rfl, fun e => ⟨e, rfl, fun i hi => by cases hi⟩⟩
 | i :: l, t, h => by
  rw [List.foldl_cons]
  by_cases c : (k.al t.1.1 (t.1.2.getD i (0, 0)).2 || !k.al t.1.1 (t.1.2.getD i (0, 0)).1) = true
  ·have e : wkP k.al k.mp t i = t := by unfold wkP; rw [if_pos c]
   rw [e]
   obtain ⟨i1, i2, i3, i4⟩ := Mg.wal l t h
   refine ⟨i1, i2, i3, fun q => ?_⟩
   obtain ⟨q1, q2, q3⟩ := i4 q
   refine ⟨q1, q2, fun j hj => ?_⟩
   rcases List.mem_cons.1 hj with e | hj
   ·rw [e]
    rw [Bool.or_eq_true] at c
    exact c.imp id (fun c => by simpa using c)
   ·exact q3 j hj
  ·have e : wkP k.al k.mp t i = ((k.ma t.1.1 (t.1.2.getD i (0, 0)).2, t.1.2), true) := by
    unfold wkP
    rw [if_neg c]
    show ((k.ma t.1.1 (t.1.2.getD i (0, 0)).2, t.1.2.set i ((t.1.2.getD i (0, 0)).1, (t.1.2.getD i (0, 0)).2)), true) = _
    have e2 : t.1.2.set i ((t.1.2.getD i (0, 0)).1, (t.1.2.getD i (0, 0)).2) = t.1.2 := set_getD _ _ _
    rw [e2]
   rw [e]
   obtain ⟨m1, m2, _⟩ := h.ma (t.1.2.getD i (0, 0)).2
   obtain ⟨i1, i2, i3, i4⟩ := Mg.wal l ((k.ma t.1.1 (t.1.2.getD i (0, 0)).2, t.1.2), true) m1
   refine ⟨i1, m2.trans i2, i3, fun q => ?_⟩
   have := (i4 q).1
   cases this
theorem Mg.wa {t : Js × List En} (h : Mg k (fun _ => False) t.1) : Mg k (fun _ => False) (k.wa t).1.1 /\ Mle k t.1 (k.wa t).1.1 /\ (k.wa t).1.2 = t.2 /\ ((k.wa t).2 = false -> (k.wa t).1 = t /\ ∀ e ∈ t.2, k.al t.1 e.2 = true \/ k.al t.1 e.1 = false) := by
 obtain ⟨h1, h2, h3, h4⟩ := Mg.wal (List.range t.2.length) (t, false) h
 refine ⟨h1, h2, h3, fun q => ?_⟩
 obtain ⟨_, q2, q3⟩ := h4 q
 refine ⟨?_, fun e he => ?_⟩
 ·show (wkQ k.al k.mp t t.2.length).1 = t
  unfold wkQ
  rw [q2]
 ·obtain ⟨i, hi, e1⟩ := List.mem_iff_getElem.1 he
  have := q3 i (by simpa using hi)
  have e2 : t.2.getD i (0, 0) = e := by
   rw [List.getD_eq_getElem?_getD, List.getElem?_eq_getElem hi, e1]
   rfl
  dsimp only at this
  rw [e2] at this
  exact this
theorem Mg.spr : ∀ (n : Nat) (t : Js × List En), Mg k (fun _ => False) t.1 -> Mg k (fun _ => False) (k.spr n t).1 /\ Mle k t.1 (k.spr n t).1 /\ (k.spr n t).2 = t.2 /\ (k.mu t.1 < n -> Dn k (k.spr n t).1 (k.spr n t).2)
 | 0, t, h => ⟨h, Mle.refl _, rfl, fun e => by omega⟩
 | n + 1, t, h => by
  obtain ⟨l1, l2, l3⟩ := h.LM
  obtain ⟨v1, v2⟩ := l1.kv
  have m1 := (Jl.LM h.ji).mu
  obtain ⟨m2, m3⟩ := Jl.kv l1.ji
  unfold Jk.spr
  by_cases c : (k.kv (k.LM t.1)).1 = true
  ·rw [if_pos c]
   obtain ⟨i1, i2, i3, i4⟩ := Mg.spr n ((k.kv (k.LM t.1)).2, t.2) v1
   have := m3 c
   exact ⟨i1, (l2.trans v2).trans i2, i3, fun e => i4 (by dsimp only; omega)⟩
  ·rw [if_neg c]
   have c2 : (k.kv (k.LM t.1)).1 = false := by simpa using c
   obtain ⟨s1, s2⟩ := kv_still c2
   rw [s1]
   obtain ⟨w1, w2, w3, w4⟩ := Mg.wa (t := (k.LM t.1, t.2)) l1
   by_cases d : (k.wa (k.LM t.1, t.2)).2 = true
   ·rw [if_pos d]
    obtain ⟨i1, i2, i3, i4⟩ := Mg.spr n (k.wa (k.LM t.1, t.2)).1 w1
    have := (Jl.wa (t := (k.LM t.1, t.2)) l1.ji).2.2 d
    dsimp only at this
    exact ⟨i1, (l2.trans w2).trans i2, i3.trans w3, fun e => i4 (by omega)⟩
   ·rw [if_neg d]
    have d2 : (k.wa (k.LM t.1, t.2)).2 = false := by simpa using d
    obtain ⟨q1, q2⟩ := w4 d2
    rw [q1]
    exact ⟨l1, l2, rfl, fun _ => ⟨l1, l3, s2, q2⟩⟩
theorem Mg.sp {t : Js × List En} (h : Mg k (fun _ => False) t.1) : Dn k (k.sp t).1 (k.sp t).2 /\ Mle k t.1 (k.sp t).1 /\ (k.sp t).2 = t.2 := by
 obtain ⟨h1, h2, h3, h4⟩ := Mg.spr (k.mu t.1 + 1) t h
 exact ⟨h4 (by omega), h2, h3⟩
theorem Mg.ke {t : Js × List En} (h : Mg k (fun _ => False) t.1) (x : Int) : Dn k (k.ke t x).2.1 (k.ke t x).2.2 /\ Mle k t.1 (k.ke t x).2.1 /\ (k.ke t x).2.2 = t.2 /\ k.al (k.ke t x).2.1 x = true := by
 obtain ⟨m1, m2, m3⟩ := h.ma x
 obtain ⟨h1, h2, h3⟩ := Mg.sp (t := (k.ma t.1 x, t.2)) m1
 refine ⟨h1, m2.trans h2, h3, ?_⟩
 have q := h2.jl m3
 show (!k.jl _ x) = true
 have q : k.jl (k.sp (k.ma t.1 x, t.2)).1 x = false := q
 show (!k.jl (k.sp (k.ma t.1 x, t.2)).1 x) = true
 rw [q]
 rfl
def Jk.cmJ (k : Jk) : Js × List En -> En -> Bool × (Js × List En) := cm (noSd Js) (fun s x => k.al s.1 x) k.ke
theorem Dn.cm {t : Js × List En} (h : Dn k t.1 t.2) (e : En) : Dn k (k.cmJ t e).2.1 (k.cmJ t e).2.2 /\ Mle k t.1 (k.cmJ t e).2.1 := by
 unfold Jk.cmJ
 cases c : k.al t.1 e.1
 ·rw [cm_no (o := noSd Js) (is := fun s x => k.al s.1 x) (kp := k.ke) (s := t) (e := e) c]
  exact ⟨h, Mle.refl _⟩
 ·rw [cm_yes (o := noSd Js) (is := fun s x => k.al s.1 x) (kp := k.ke) (s := t) (e := e) c]
  obtain ⟨h1, h2, h3, h4⟩ := h.mg.ke e.2
  show Dn k (k.ke t e.2).2.1 ((k.ke t e.2).2.2 ++ [(e.1, e.2)]) /\ Mle k t.1 (k.ke t e.2).2.1
  refine ⟨⟨h1.mg, h1.td, h1.ep, fun d hd => ?_⟩, h2⟩
  rcases List.mem_append.1 hd with hd | hd
  ·exact h1.wq d hd
  ·rw [List.mem_singleton.1 hd]
   exact Or.inl h4
theorem Dn.pl : ∀ (l : List En) (u : List En × List En × (Js × List En)), Dn k u.2.2.1 u.2.2.2 -> Dn k (l.foldl (pstep k.cmJ) u).2.2.1 (l.foldl (pstep k.cmJ) u).2.2.2 /\ Mle k u.2.2.1 (l.foldl (pstep k.cmJ) u).2.2.1
 | [], u, h => ⟨h, Mle.refl _⟩
 | e :: l, u, h => by
  rw [List.foldl_cons]
  have key : (pstep k.cmJ u e).2.2 = (k.cmJ u.2.2 e).2 := by
   unfold pstep
   split <;> rfl
  obtain ⟨c1, c2⟩ := h.cm e
  rw [<- key] at c1 c2
  obtain ⟨i1, i2⟩ := Dn.pl l (pstep k.cmJ u e) c1
  exact ⟨i1, c2.trans i2⟩
theorem Dn.trn : ∀ (n : Nat) (t : Js × List En) (d : List En), Dn k t.1 t.2 -> Dn k (trn k.cmJ n t d).1.1 (trn k.cmJ n t d).1.2 /\ Mle k t.1 (trn k.cmJ n t d).1.1
 | 0, t, d, h => ⟨h, Mle.refl _⟩
 | n + 1, t, d, h => by
  obtain ⟨p1, p2⟩ := Dn.pl d ([], [], t) h
  have p1 : Dn k (pts k.cmJ t d).2.2.1 (pts k.cmJ t d).2.2.2 := p1
  have p2 : Mle k t.1 (pts k.cmJ t d).2.2.1 := p2
  by_cases c : (pts k.cmJ t d).1.length = 0
  ·rw [trn_stop _ _ _ _ c]
   exact ⟨p1, p2⟩
  ·rw [trn_go _ _ _ _ c]
   obtain ⟨i1, i2⟩ := Dn.trn n (pts k.cmJ t d).2.2 (pts k.cmJ t d).2.1 p1
   exact ⟨i1, p2.trans i2⟩
theorem Dn.sS {t : Js × List En} (h : Dn k t.1 t.2) (r : List En) : Dn k (k.sS t r).1 (k.sS t r).2 /\ Mle k t.1 (k.sS t r).1 := Dn.trn _ t _ h
theorem Mg.start (h : JI k js0) {X : Int -> Prop} : Mg k X js0 := ⟨h, fun _ _ hf => absurd rfl hf, fun _ ha => by simp [js0] at ha, fun _ _ hf => absurd rfl hf⟩
theorem Mg.kr {X : Int -> Prop} (h : Mg k X s) : ∀ n, Mg k X (k.kr s n) /\ Mle k s (k.kr s n) /\ ∀ i, i < n -> k.jl (k.kr s n) (k.s.rs.getD i 0) = false
 | 0 => ⟨h, Mle.refl _, fun i hi => by omega⟩
 | n + 1 => by
  obtain ⟨h1, h2, h3⟩ := Mg.kr h n
  obtain ⟨j1, j2, j3⟩ := h1.ma (k.s.rs.getD n 0)
  refine ⟨j1, h2.trans j2, fun i hi => ?_⟩
  by_cases e : i = n
  ·rw [e]; exact j3
  ·exact j2.jl (h3 i (by omega))
end
theorem settled_all {a : Wc} {S : Ww} (hI : JI (S.s.j0 a) js0) : Dn (S.s.j0 a) (S.j3 a) ((S.s.j0 a).sS (S.j2 a) S.r).2 /\ Mle (S.s.j0 a) (S.j2 a).1 (S.j3 a) /\ ∀ i, i < 12 -> (S.s.j0 a).jl (S.j3 a) (S.s.rs.getD i 0) = false := by
 obtain ⟨h1, _, h3⟩ := (Mg.start (X := fun _ => False) hI).kr 12
 obtain ⟨d1, d2, _⟩ := Mg.sp (t := ((S.s.j0 a).kr js0 12, S.q)) h1
 obtain ⟨e1, e2⟩ := Dn.sS (t := S.j2 a) d1 S.r
 have d2 : Mle (S.s.j0 a) ((S.s.j0 a).kr js0 12) (S.j2 a).1 := d2
 exact ⟨e1, e2, fun i hi => e2.jl (d2.jl (h3 i hi))⟩
end Go.Proofs.YtalgochmjddodaaGreat

namespace Go.Proofs.YtalgochmjddodaaGreat
open Go.RowKit W Kp Stl
section
variable {a : Wc} {S : Ww}
theorem Tw_zero (N g : Nat) (ws : List Int) : Tw N 0 g ws = [] := by
 have e : thY N 0 g ws = [] := ths_end 2000 (by simp)
 unfold Tw
 rw [e]
 rfl
theorem cut_still (hy : S.s.y = 0) (hM : S.s.M = []) (hg : S.s.g <= a.O) : S.cut a = S /\ S.code a = 0 := by
 have hf : S.full a = false := by
  unfold Ww.full
  rw [hy]
  exact decide_eq_false (by omega)
 obtain ⟨k, hk⟩ : ∃ k, S.s.k0 a = k := ⟨_, rfl⟩
 obtain ⟨s0, hs0⟩ : ∃ s0, S.s.s0 a = s0 := ⟨_, rfl⟩
 have hT : k.T = [] := by rw [<- hk]; show Tw a.N S.s.y S.s.g S.s.ws = []; rw [hy]; exact Tw_zero _ _ _
 have yg : ∀ x, k.yg x = false := fun x => by unfold Ck.yg; rw [hT]; simp
 have ls : ∀ s x, k.ls s x = false := fun s x => by unfold Ck.ls; rw [yg]; rfl
 have nw : ∀ s x, k.nw s x = x := fun s x => by unfold Ck.nw; rw [yg]; rfl
 have al : ∀ s x, k.al s x = true := fun s x => by unfold Ck.al; rw [ls]; rfl
 have br : ∀ s x, k.br s x = (x, s) := fun s x => by unfold Ck.br; rw [ls, if_neg (by simp), nw]
 have kr : ∀ n, k.kr s0 n = s0 := fun n => by
  induction n with
  | zero => rfl
  | succ n ih =>
   show ({ (k.br (k.kr s0 n) ((k.kr s0 n).rs.getD n 0)).2 with rs := (k.br (k.kr s0 n) ((k.kr s0 n).rs.getD n 0)).2.rs.set n (k.br (k.kr s0 n) ((k.kr s0 n).rs.getD n 0)).1 } : Cs) = s0
   rw [ih, br]
   dsimp only
   rw [set_getD]
 have lm : ∀ (l : List Int) (e c : Int), l.foldl (k.lm1 e c []) s0 = s0 := fun l e c => by
  induction l with
  | nil => rfl
  | cons x l ih =>
   rw [List.foldl_cons]
   have e1 : k.lm1 e c [] s0 x = s0 := by
    unfold Ck.lm1
    split
    ·rw [if_neg (by simp)]
    ·rfl
   rw [e1, ih]
 have e1 : S.s.s1 a = s0 := by unfold Wst.s1; rw [hk, hs0]; exact kr 12
 have e2 : S.s.s2 a = s0 := by
  unfold Wst.s2 Ck.lm
  rw [hk, e1, hM]
  exact lm _ _ _
 have s0nx : s0.nx = (a.N : Int) + S.s.g := by rw [<- hs0]; rfl
 have s0g : s0.g = S.s.g := by rw [<- hs0]; rfl
 have s0ep : s0.ep = [] := by rw [<- hs0]; rfl
 have s0wk : s0.wk = [] := by rw [<- hs0]; rfl
 have kN : k.N = a.N := by rw [<- hk]; rfl
 have lb : ∀ n, k.lb n s0 = s0 := fun n => by
  cases n with
  | zero => rfl
  | succ n =>
   unfold Ck.lb
   have hh : hB k.N s0.g s0.nx = false := by
    rw [kN, s0g, s0nx]
    unfold hB
    exact decide_eq_false (by omega)
   rw [hh, if_neg (by simp)]
 have kv : k.kv s0 = (false, s0) := by
  unfold Ck.kv Ck.kvf
  rw [s0ep]
  simp only [List.foldl_nil, List.length_nil, Nat.lt_irrefl, decide_false]
  cases hs : s0
  rw [hs] at s0ep
  simp at s0ep
  rw [s0ep]
 have wal : ∀ (l : List Nat) (t : (Cs × List En) × Bool), l.foldl (wkP k.al k.br) t = t := fun l => by
  induction l with
  | nil => intro t; rfl
  | cons i l ih =>
   intro t
   rw [List.foldl_cons]
   have e : wkP k.al k.br t i = t := by unfold wkP; rw [al]; rfl
   rw [e, ih]
 have wa : k.wa (s0, S.q) = ((s0, S.q), false) := wal _ _
 have sp : k.sp (s0, S.q) = (s0, S.q) := by
  unfold Ck.sp Ck.spr
  dsimp only
  rw [lb, kv]
  dsimp only
  rw [if_neg (by simp), wa, if_neg (by simp)]
 have e3 : S.t3 a = (s0, S.q) := by unfold Ww.t3; rw [hk, e2, sp]
 have fr : S.r.filter (fun e => !k.al s0 e.2) = [] := by
  rw [List.filter_eq_nil_iff]
  intro e _
  rw [al]
  simp
 have eS : k.sS (s0, S.q) S.r = (s0, S.q) := by
  show stS (noSd Cs) (fun s x => k.al s.1 x) k.ke (s0, S.q) S.r = _
  unfold stS
  rw [fr]
  rfl
 have same : ∀ l : List En, (l.map fun e => (k.nw s0 e.1, k.nw s0 e.2)) = l := fun l => by
  have : (fun e : En => (k.nw s0 e.1, k.nw s0 e.2)) = id := by
   funext e
   rw [nw, nw]
   rfl
  rw [this, List.map_id]
 have ft : ∀ (l : List En) (f : En -> Int), l.filter (fun e => k.al s0 (f e)) = l := fun l f => List.filter_eq_self.2 (fun e _ => al s0 (f e))
 have eR : k.sR (s0, S.q) S.r = S.r := by
  show stR (noSd Cs) (fun s x => k.al s.1 x) k.ke (fun s x => k.nw s.1 x) (s0, S.q) S.r = _
  unfold stR
  have e : stS (noSd Cs) (fun s x => k.al s.1 x) k.ke (s0, S.q) S.r = (s0, S.q) := eS
  rw [e]
  dsimp only
  rw [ft S.r (fun e => e.2), ft S.r (fun e => e.1)]
  exact same S.r
 have eQ : k.sQ (s0, S.q) S.r = S.q := by
  show stQ (noSd Cs) (fun s x => k.al s.1 x) k.ke (fun s x => k.nw s.1 x) (s0, S.q) S.r = _
  unfold stQ
  have e : stS (noSd Cs) (fun s x => k.al s.1 x) k.ke (s0, S.q) S.r = (s0, S.q) := eS
  rw [e]
  show ((S.q.filter (fun e => k.al s0 e.1)).map fun e => (k.nw s0 e.1, k.nw s0 e.2)) = S.q
  rw [ft S.q (fun e => e.1)]
  exact same S.q
 have e4 : S.s4 a = s0 := by unfold Ww.s4; rw [hk, e3, eS]
 have e5 : S.s5 a = s0 := by unfold Ww.s5 Ck.mw; rw [e4, s0wk]; rfl
 have e6 : S.s6 a = s0 := by unfold Ww.s6 Ck.be; rw [e5, s0ep]; rfl
 refine ⟨?_, by unfold Ww.code; rw [hf]; rfl⟩
 unfold Ww.cut
 rw [hf, if_neg (by simp), hk, e3, eR, eQ, e6, <- hs0]
 show (⟨⟨0, S.s.g, S.s.ws, [], S.s.rs⟩, S.r, S.q⟩ : Ww) = S
 obtain ⟨⟨y, g, ws, M, rs⟩, r, q⟩ := S
 dsimp only at hy hM ⊢
 rw [hy, hM]
end
end Go.Proofs.YtalgochmjddodaaGreat

namespace Go.Proofs.YtalgochmjddodaaGreat
open Go.RowKit W Kp Stl
section
variable {k : Jk} {s : Js}
theorem Mg.nw {X : Int -> Prop} (h : Mg k X s) (x : Int) : k.nw s x = x := by
 unfold Jk.nw
 split
 ·rename_i c
  rw [Bool.and_eq_true] at c
  have ht := jt_mem c.1
  have hf : s.f (aV x) ≠ -1 := by simpa using c.2
  have ha : aB x = true := by
   have q := c.1
   unfold Jk.jt at q
   rw [Bool.and_eq_true] at q
   exact q.1
  have h0 : dc x = 0 := by
   have q := ha
   unfold aB at q
   rw [Bool.and_eq_true] at q
   simpa using q.1
  rw [h.self _ ht hf, aV_yes x ha]
  have q := (enc_dec x h0).2
  rw [aB_dk ha] at q
  exact q
 ·rfl
theorem tS_same {t : Js × List En} {r : List En} (h : ∀ e ∈ r, k.al t.1 e.2 = true) : k.tS t r = t := by
 have e : r.filter (fun e => !k.al t.1 e.2) = [] := by
  rw [List.filter_eq_nil_iff]
  intro e he
  rw [h e he]
  simp
 show stS (noSd Js) (fun s x => k.al s.1 x) k.mq t r = t
 unfold stS
 rw [e]
 rfl
end
section
variable {a : Wc} {S : Ww} {Y G : List Int}
theorem r3_alive (hI : JI (S.s.j0 a) js0) : ∀ e ∈ S.r3 a, (S.s.j0 a).al (S.j3 a) e.2 = true := by
 obtain ⟨d1, d2, _⟩ := settled_all (S := S) hI
 intro e he
 have he : e ∈ ((S.r.filter (fun e => (S.s.j0 a).al (S.j2 a).1 e.2)).filter (fun e => (S.s.j0 a).al ((S.s.j0 a).sS (S.j2 a) S.r).1 e.1)).map fun e => ((S.s.j0 a).nw ((S.s.j0 a).sS (S.j2 a) S.r).1 e.1, (S.s.j0 a).nw ((S.s.j0 a).sS (S.j2 a) S.r).1 e.2) := he
 obtain ⟨e0, h1, h2⟩ := List.mem_map.1 he
 have h3 := (List.mem_filter.1 (List.mem_filter.1 h1).1).2
 rw [<- h2]
 have q : (S.s.j0 a).nw (S.j3 a) e0.2 = e0.2 := d1.mg.nw e0.2
 show (S.s.j0 a).al (S.j3 a) ((S.s.j0 a).nw (S.j3 a) e0.2) = true
 rw [q]
 exact al_le d2 h3
structure Gal2 (a : Wc) (s : Wst) (T : List Int) (j : Js) : Prop where
  rt : ∀ i, i < 12 -> aB (s.rs.getD i 0) = true -> aV (s.rs.getD i 0) ∈ T /\ j.f (aV (s.rs.getD i 0)) ≠ -1
  fd : ∀ c ∈ T, j.f c ≠ -1 -> ∀ i, 0 <= i -> i < pf (ld a.N s.y s.g s.ws c) -> aB ((s.j0 a).bkf j c i) = true -> aV ((s.j0 a).bkf j c i) ∈ T /\ j.f (aV ((s.j0 a).bkf j c i)) ≠ -1
theorem Gc.inv {s s' : Wst} {j : Js} (g : Gc a s (G ++ Y) j s') (h : KInv a s Y G) (hb : Wbd a s) (al : Gal2 a s (G ++ Y) j) : KInv a s' [] (j.lf (G ++ Y)) /\ Wbd a s' := by
 obtain ⟨_, _, e3⟩ := j0_lists h.inv.full hb
 have hF := g.full h.inv.full
 have hbd := g.bd
 have hN := hb.n1
 have hO := hb.o1
 have hgo := g.g
 have hsm : ∀ c ∈ (s.j0 a).T, j.f c ≠ -1 -> 0 <= j.f c /\ j.f c < 1000000 := fun c hc hf => by
  rw [e3] at hc
  have := hbd c hc hf
  have := pf_bd (ld a.N s.y s.g s.ws c)
  omega
 have key : ∀ x, (aB x = true -> aV x ∈ G ++ Y /\ j.f (aV x) ≠ -1) -> aB ((s.j0 a).nw j x) = true -> aV ((s.j0 a).nw j x) ∈ j.lf (G ++ Y) := fun x hx ha => by
  obtain ⟨_, q2⟩ := nw_moved (k := s.j0 a) (j := j) (x := x) (fun ha => by rw [e3]; exact hx ha) hsm
  obtain ⟨c, c1, c2, c3⟩ := q2 ha
  rw [e3] at c1
  exact lf_mem.2 ⟨c, c1, c2, c3.symm⟩
 refine ⟨⟨?_, fun v _ i _ _ _ hy => by cases hy⟩, ⟨hb.n0, hb.n1, hb.o1, by rw [g.y]; exact Nat.zero_le _, g.g, g.l, g.rl⟩⟩
 rw [g.y]
 refine ⟨hF, fun x hx ha => ?_, fun v hv i i0 i1 ha => ?_⟩
 ·obtain ⟨i, hi, e⟩ := List.mem_iff_getElem.1 hx
  have e2 : s'.rs.getD i 0 = x := by
   rw [List.getD_eq_getElem?_getD, List.getElem?_eq_getElem hi, e]
   rfl
  have hi12 : i < 12 := by rw [<- g.rl]; exact hi
  rw [<- e2, g.rs i hi12] at ha ⊢
  exact Or.inr (key _ (al.rt i hi12) ha)
 ·obtain ⟨c, c1, c2, c3⟩ := lf_mem.1 (hv.resolve_left (by simp))
  rw [<- c3] at i1 ha ⊢
  rw [g.hd c c1 c2] at i1
  rw [g.fd c c1 c2 i i0 i1] at ha ⊢
  exact Or.inr (key _ (al.fd c c1 c2 i i0 i1) ha)
structure Gin (a : Wc) (S : Ww) (Y G : List Int) (j : Js) : Prop where
  gc : Gc a S.s (G ++ Y) j (S.gcut a).s
  al : Gal2 a S.s (G ++ Y) j
  g : ((S.gcut a).s.g : Int) = S.n4 a
  iff : ∀ c ∈ G ++ Y, j.f c = -1 ↔ (S.j3 a).f c = -1
  j : S.j4 a = j
theorem great_in (h : KInv a S.s Y G) (hb : Wbd a S.s) (hf : S.jfull a = false) : (∃ F, SlG (S.k5 a) (S.j5 a) F /\ F 0 (S.k5 a, 0)) /\ Gin a S Y G (S.j4 a) /\ S.j5 a = S.j4 a := by
 have hI : JI (S.s.j0 a) js0 := JI.start hb.n1 hb.o1 hb.y1 hb.g1
 obtain ⟨d1, d2, d3⟩ := settled_all (S := S) hI
 obtain ⟨l1, l2, l3⟩ := j0_lists h.inv.full hb
 have hm : ((S.s.j0 a).pl (S.j3 a)).2 <= a.N + a.O := by
  unfold Ww.jfull at hf
  have := of_decide_eq_false hf
  unfold Ww.n4 at this
  omega
 obtain ⟨g1, g2, g3, g4⟩ := gc_done h.inv.full hb (S.j3 a) hm
 have e4 : ((S.s.j0 a).pl (S.j3 a)).1 = S.j4 a := rfl
 rw [e4] at g1 g2 g3 g4
 have e6 : (S.s.j0 a).tlA (S.j4 a) = S.k5 a := rfl
 rw [e6] at g1 g2 g4
 have hT5 : (S.k5 a).T = (S.s.j0 a).T := by
  obtain ⟨_, t2, t3, _⟩ := tlA_ld (s := S.j4 a) (k := S.s.j0 a) ⟨hb.l1, hb.y1, hb.g1⟩ hb.r1 hI.nd (j0_whl h.inv.full hb) (j0_ap h.inv.full hb)
  rw [e6] at t2 t3
  unfold Jk.T
  rw [t2, t3]
 have hjl : ∀ x, (S.s.j0 a).jl (S.j4 a) x = (S.s.j0 a).jl (S.j3 a) x := fun x => by
  cases hj : (S.s.j0 a).jt x
  ·unfold Jk.jl
   rw [hj]
   rfl
  ·have hmem := jt_mem hj
   rw [l3] at hmem
   have q := g3 _ hmem
   unfold Jk.jl
   rw [hj, Bool.true_and, Bool.true_and]
   by_cases c : (S.j3 a).f (aV x) = -1
   ·rw [c, q.2 c]
   ·rw [beq_false_of_ne c, beq_false_of_ne (fun d => c (q.1 d))]
 have e5 : S.j5 a = S.j4 a := by
  have q : (S.k5 a).tS (S.j4 a, S.q3 a) (S.r3 a) = (S.j4 a, S.q3 a) := tS_same (fun e he => by
   have q1 := r3_alive (S := S) hI e he
   unfold Jk.al at q1 ⊢
   have q2 : (S.k5 a).jl (S.j4 a) e.2 = (S.s.j0 a).jl (S.j4 a) e.2 := by
    unfold Jk.jl Jk.jt
    rw [hT5]
   dsimp only
   rw [q2, hjl]
   exact q1)
  unfold Ww.j5
  rw [q]
 have e7 : (S.k5 a).sl (S.j4 a) = S.k6 a := by unfold Ww.k6; rw [e5]
 rw [e7] at g1 g2
 have eS : (S.gcut a).s = (S.k6 a).s := by unfold Ww.gcut; rw [hf, if_neg (by simp)]
 have notlost : ∀ x, aB x = true -> aV x ∈ G ++ Y -> (S.s.j0 a).jl (S.j3 a) x = false -> (S.j4 a).f (aV x) ≠ -1 := fun x ha hm hj => by
  have hjt : (S.s.j0 a).jt x = true := by
   unfold Jk.jt
   rw [ha, l3, List.contains_iff_mem.2 hm]
   rfl
  rw [Jk.jl_no hjt] at hj
  exact fun e => hj ((g3 _ hm).1 e)
 rw [e5]
 refine ⟨g4, ⟨by rw [eS]; exact g1, ⟨fun i hi ha => ?_, fun c hc hfc i i0 i1 ha => ?_⟩, by rw [eS]; exact g2, g3, rfl⟩, rfl⟩
 ·have hgd : S.s.rs.getD i 0 ∈ S.s.rs := by
   rw [List.getD_eq_getElem?_getD, List.getElem?_eq_getElem (by rw [hb.r1]; exact hi)]
   exact List.getElem_mem _
  have hm1 : aV (S.s.rs.getD i 0) ∈ G ++ Y := List.mem_append.2 (h.inv.rt _ hgd ha).symm
  exact ⟨hm1, notlost _ ha hm1 (d3 i hi)⟩
 ·have hw := j0_whl h.inv.full hb c (by rw [l3]; exact hc)
  have hp0 : pc (ld a.N S.s.y S.s.g S.s.ws c) = 0 := hw.c
  have hcT : c ∈ (S.s.j0 a).T := by rw [l3]; exact hc
  have hf3 : (S.j3 a).f c ≠ -1 := fun e => hfc ((g3 c hc).2 e)
  have hM : Mgk (S.s.j0 a) (S.j3 a) c := by
   rcases d1.mg.cmp c hcT hf3 with q | q | q
   ·rw [d1.td] at q
    cases q
   ·exact absurd q id
   ·exact q
  have mem : ∀ i, 0 <= i -> i < pf (ld a.N S.s.y S.s.g S.s.ws c) -> aB (ld a.N S.s.y S.s.g S.s.ws (c + 1 + i)) = true -> aV (ld a.N S.s.y S.s.g S.s.ws (c + 1 + i)) ∈ G ++ Y := fun i i0 i1 ha => List.mem_append.2 (h.inv.fd c (List.mem_append.1 hc).symm i i0 i1 ha).symm
  unfold Jk.bkf at ha ⊢
  rw [hjl] at ha ⊢
  by_cases cb : ((pk ((S.s.j0 a).ld c) = 3 \/ pk ((S.s.j0 a).ld c) = 4) /\ (S.s.j0 a).jl (S.j3 a) ((S.s.j0 a).ld (c + 1)) = true) /\ (i = 0 \/ (pk ((S.s.j0 a).ld c) = 4 /\ i = 1))
  ·rw [if_pos cb] at ha
   exact absurd ha (by decide)
  ·rw [if_neg cb] at ha ⊢
   have ha : aB (ld a.N S.s.y S.s.g S.s.ws (c + 1 + i)) = true := ha
   have hm1 := mem i i0 i1 ha
   refine ⟨hm1, notlost _ ha hm1 ?_⟩
   show (S.s.j0 a).jl (S.j3 a) ((S.s.j0 a).ld (c + 1 + i)) = false
   by_cases k12 : pk ((S.s.j0 a).ld c) = 1 \/ pk ((S.s.j0 a).ld c) = 2
   ·have q := hM.p k12 i.toNat (by show (i.toNat : Int) < pf (ld a.N S.s.y S.s.g S.s.ws c); omega)
    rwa [show ((i.toNat : Nat) : Int) = i from by omega] at q
   ·by_cases k3 : pk ((S.s.j0 a).ld c) = 3
    ·have f2 := pf_two hp0 (Or.inr (Or.inl k3))
     by_cases z : i = 0
     ·cases hl : (S.s.j0 a).jl (S.j3 a) ((S.s.j0 a).ld (c + 1))
      ·rw [z, Int.add_zero]
       exact hl
      ·exact absurd ⟨⟨Or.inl k3, hl⟩, Or.inl z⟩ cb
     ·have o : i = 1 := by omega
      rw [o, show c + 1 + 1 = c + 2 from by omega]
      exact hM.w k3
    ·by_cases k4 : pk ((S.s.j0 a).ld c) = 4
     ·have f2 := pf_two hp0 (Or.inr (Or.inr k4))
      have hkey : (S.s.j0 a).jl (S.j3 a) ((S.s.j0 a).ld (c + 1)) = false := by
       cases hl : (S.s.j0 a).jl (S.j3 a) ((S.s.j0 a).ld (c + 1))
       ·rfl
       ·exact absurd ⟨⟨Or.inr k4, hl⟩, by omega⟩ cb
      by_cases z : i = 0
      ·rw [z, Int.add_zero]
       exact hkey
      ·have o : i = 1 := by omega
       rw [o, show c + 1 + 1 = c + 2 from by omega]
       rcases hM.e k4 with q | q
       ·rw [d1.ep c q] at hkey
        cases hkey
       ·exact q
     ·exfalso
      have q1 := pk_all hp0
      have q2 : pf (ld a.N S.s.y S.s.g S.s.ws c) = 0 := by
       have q3 : pk (ld a.N S.s.y S.s.g S.s.ws c) ≠ 1 /\ pk (ld a.N S.s.y S.s.g S.s.ws c) ≠ 2 /\ pk (ld a.N S.s.y S.s.g S.s.ws c) ≠ 3 /\ pk (ld a.N S.s.y S.s.g S.s.ws c) ≠ 4 := ⟨fun e => k12 (Or.inl e), fun e => k12 (Or.inr e), k3, k4⟩
       omega
      omega
theorem gcut_len (a : Wc) (S : Ww) : (S.gcut a).r.length + (S.gcut a).q.length <= S.r.length + S.q.length := by
 unfold Ww.gcut
 split
 ·exact Nat.le_refl _
 ·have h1 := st_len (noSd Js) (fun s x => (S.s.j0 a).al s.1 x) (S.s.j0 a).ke (fun s x => (S.s.j0 a).nw s.1 x) (fun s x => keJ_len (S.s.j0 a) s x) (S.j2 a) S.r
  have h2 : (S.j2 a).2.length = S.q.length := sprJ_len _ _ _
  have h3 : (noSd Js).wt (S.j2 a) = (S.j2 a).2 := rfl
  have h4 : (S.r3 a).length + (S.q3 a).length <= S.r.length + (S.j2 a).2.length := h1
  have h5 := st_len (noSd Js) (fun s x => (S.k5 a).al s.1 x) (S.k5 a).mq (fun s x => (S.k5 a).nw s.1 x) (fun _ _ => rfl) (S.j4 a, S.q3 a) (S.r3 a)
  have h6 : ((S.k5 a).tR (S.j4 a, S.q3 a) (S.r3 a)).length + ((S.k5 a).tQ (S.j4 a, S.q3 a) (S.r3 a)).length <= (S.r3 a).length + (S.q3 a).length := h5
  dsimp only
  omega
theorem KInv.gcut (h : KInv a S.s Y G) (hb : Wbd a S.s) : (S.jfull a = false -> ∃ F, SlG (S.k5 a) (S.j5 a) F /\ F 0 (S.k5 a, 0)) /\ (∃ Y' G', KInv a (S.gcut a).s Y' G') /\ (S.gcut a).s.M.length <= S.s.M.length := by
 refine ⟨fun hf => (great_in h hb hf).1, ?_⟩
 cases hf : S.jfull a
 ·obtain ⟨_, g, _⟩ := great_in h hb hf
  obtain ⟨i1, _⟩ := g.gc.inv h hb g.al
  exact ⟨⟨[], _, i1⟩, by rw [g.gc.M]; exact Nat.zero_le _⟩
 ·have eG : S.gcut a = S := by unfold Ww.gcut; rw [if_pos hf]
  rw [eG]
  exact ⟨⟨Y, G, h⟩, Nat.le_refl _⟩
end
theorem Bok.gcutG {c : Bc} {S : Ww × Wrs} {j : Nat} (h : Bok c S j) (hb : Wbd c.a S.1.s) : (S.1.jfull c.a = false -> ∃ F, SlG (S.1.k5 c.a) (S.1.j5 c.a) F /\ F 0 (S.1.k5 c.a, 0)) /\ Bok c (S.1.gcut c.a, S.2) (j + 1) := by
 obtain ⟨Y, G, hk⟩ := h.kv
 obtain ⟨g1, g2, g3⟩ := hk.gcut hb
 have e1 := h.m
 have e2 := h.rq
 have e3 := h.t
 have e4 := h.rg
 have e5 := gcut_len c.a S.1
 exact ⟨g1, g2, h.wok, by dsimp only; omega, by dsimp only; omega, by dsimp only; omega, by dsimp only; omega, h.wt⟩
end Go.Proofs.YtalgochmjddodaaGreat
