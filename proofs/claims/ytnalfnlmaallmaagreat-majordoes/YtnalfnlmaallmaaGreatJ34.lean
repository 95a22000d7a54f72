/- Joined: Mg1, Mg2, Mj26, Sd8, Sd9, Sdb. -/
import Derived.Test.YtnalfnlmaallmaaGreatJ33
import Derived.Test.YtnalfnlmaallmaaGreatJ22
import Derived.Test.YtnalfnlmaallmaaGreatJ06
import Derived.Test.YtnalfnlmaallmaaGreatJ09
namespace Go.Proofs.YtnalfnlmaallmaaGreat
open Go.RowKit W Kp Stl
structure Mgk (k : Jk) (s : Js) (a : Int) : Prop where
  p : pk (k.ld a) = 1 \/ pk (k.ld a) = 2 -> k.flt s a
  w : pk (k.ld a) = 3 -> k.jl s (k.ld (a + 2)) = false
  e : pk (k.ld a) = 4 -> a ∈ s.ep \/ k.jl s (k.ld (a + 2)) = false
structure Mg (k : Jk) (X : Int -> Prop) (s : Js) : Prop where
  ji : JI k s
  self : ∀ a ∈ k.T, s.f a ≠ -1 -> s.f a = a
  td : ∀ a ∈ s.td, s.f a ≠ -1
  cmp : ∀ a ∈ k.T, s.f a ≠ -1 -> a ∈ s.td \/ X a \/ Mgk k s a
section
variable {k : Jk} {X : Int -> Prop} {s t : Js}
theorem Mgk.le {a : Int} (h : Mgk k s a) (l : Mle k s t) (he : ∀ b ∈ s.ep, b ∈ t.ep) : Mgk k t a :=
 ⟨fun q => l.flt (h.p q), fun q => l.jl (h.w q), fun q => (h.e q).imp (he a) l.jl⟩
theorem ma_ep (k : Jk) (s : Js) (x : Int) : (k.ma s x).ep = s.ep := by
 unfold Jk.ma
 split <;> rfl
theorem Mg.ma (h : Mg k X s) (x : Int) : Mg k X (k.ma s x) /\ Mle k s (k.ma s x) /\ k.jl (k.ma s x) x = false := by
 by_cases c : k.jl s x = true
 ·obtain ⟨h1, h2, h3⟩ := Jk.jl_yes c
  have hp := (h.ji.ps _ h2).1
  have hj : k.jt x = true := by
   unfold Jk.jl at c
   rw [Bool.and_eq_true] at c
   exact c.1
  have e : k.ma s x = { s with f := upf s.f (aV x) (aV x), td := s.td ++ [aV x] } := by unfold Jk.ma; rw [if_pos c]
  have ef : ∀ b, (k.ma s x).f b = if b = aV x then aV x else s.f b := fun b => by rw [e]; rfl
  have et : (k.ma s x).td = s.td ++ [aV x] := by rw [e]
  have le : Mle k s (k.ma s x) := ⟨fun b hb => by
   rw [ef, if_neg (fun e => hb (by rw [e]; exact h3))]⟩
  refine ⟨⟨(h.ji.ma x).1, fun b hb hf => ?_, fun b hb => ?_, fun b hb hf => ?_⟩, le, ?_⟩
  ·rw [ef] at hf ⊢
   by_cases d : b = aV x
   ·rw [if_pos d, d]
   ·rw [if_neg d] at hf ⊢; exact h.self b hb hf
  ·rw [et] at hb
   rw [ef]
   by_cases d : b = aV x
   ·rw [if_pos d]; omega
   ·rw [if_neg d]
    rcases List.mem_append.1 hb with hb | hb
    ·exact h.td b hb
    ·exact absurd (List.mem_singleton.1 hb) d
  ·rw [et]
   by_cases d : b = aV x
   ·exact Or.inl (by rw [d]; simp)
   ·rw [ef, if_neg d] at hf
    rcases h.cmp b hb hf with q | q | q
    ·exact Or.inl (List.mem_append_left _ q)
    ·exact Or.inr (Or.inl q)
    ·exact Or.inr (Or.inr (q.le le (fun b hb => by rw [ma_ep]; exact hb)))
  ·rw [Jk.jl_no hj, ef, if_pos rfl]
   omega
 ·have e : k.ma s x = s := by unfold Jk.ma; rw [if_neg c]
  rw [e]
  exact ⟨h, Mle.refl _, by simpa using c⟩
theorem mas_ep (k : Jk) (s : Js) (a : Int) : ∀ n, (k.mas s a n).ep = s.ep
 | 0 => rfl
 | n + 1 => (ma_ep _ _ _).trans (mas_ep k s a n)
theorem Mg.mas (h : Mg k X s) (a : Int) : ∀ n : Nat, Mg k X (k.mas s a n) /\ Mle k s (k.mas s a n) /\ ∀ i : Nat, i < n -> k.jl (k.mas s a n) (k.ld (a + 1 + i)) = false
 | 0 => ⟨h, Mle.refl _, fun i hi => by omega⟩
 | n + 1 => by
  obtain ⟨h1, h2, h3⟩ := Mg.mas h a n
  obtain ⟨j1, j2, j3⟩ := h1.ma (k.ld (a + 1 + n))
  refine ⟨j1, h2.trans j2, fun i hi => ?_⟩
  by_cases e : i = n
  ·rw [e]; exact j3
  ·exact j2.jl (h3 i (by omega))
theorem Mg.lk {x : Int} (h : Mg k (fun b => b = x) s) (hT : x ∈ k.T) (hr : k.lost s + s.td.length + s.ep.length + 1 <= k.T.length) : Mg k (fun _ => False) (k.lk s x) /\ Mle k s (k.lk s x) := by
 have fin : ∀ u : Js, Mg k (fun b => b = x) u -> Mgk k u x -> Mg k (fun _ => False) u := fun u hu hx => ⟨hu.ji, hu.self, hu.td, fun a ha hf => by
  rcases hu.cmp a ha hf with q | q | q
  ·exact Or.inl q
  ·rw [q]; exact Or.inr (Or.inr hx)
  ·exact Or.inr (Or.inr q)⟩
 have hJ := (h.ji.lk hT hr).1
 unfold Jk.lk at hJ ⊢
 by_cases c1 : pk (k.ld x) = 1 \/ pk (k.ld x) = 2
 ·rw [if_pos c1]
  obtain ⟨m1, m2, m3⟩ := h.mas x (pf (k.ld x)).toNat
  exact ⟨fin _ m1 ⟨fun _ i hi => m3 i (by omega), fun q => by omega, fun q => by omega⟩, m2⟩
 ·rw [if_neg c1] at hJ ⊢
  by_cases c3 : pk (k.ld x) = 3
  ·rw [if_pos c3]
   obtain ⟨m1, m2, m3⟩ := h.ma (k.ld (x + 2))
   exact ⟨fin _ m1 ⟨fun q => absurd q c1, fun _ => m3, fun q => by omega⟩, m2⟩
  ·rw [if_neg c3] at hJ ⊢
   by_cases c4 : pk (k.ld x) = 4
   ·rw [if_pos c4] at hJ ⊢
    have le : Mle k s { s with ep := s.ep ++ [x] } := ⟨fun _ _ => rfl⟩
    refine ⟨fin _ ⟨hJ, h.self, h.td, fun a ha hf => ?_⟩ ⟨fun q => absurd q c1, fun q => absurd q c3, fun _ => Or.inl (by simp)⟩, le⟩
    exact (h.cmp a ha hf).imp id (fun q => q.imp id (fun q => q.le le (fun b hb => List.mem_append_left _ hb)))
   ·rw [if_neg c4]
    exact ⟨fin _ h ⟨fun q => absurd q c1, fun q => absurd q c3, fun q => absurd q c4⟩, Mle.refl _⟩
theorem Mg.l1 (h : Mg k (fun _ => False) s) (hl : 0 < s.td.length) : Mg k (fun _ => False) (k.l1 s) /\ Mle k s (k.l1 s) := by
 obtain ⟨x, hx⟩ : ∃ x, s.td.getD (s.td.length - 1) 0 = x := ⟨_, rfl⟩
 have hm : x ∈ s.td := by
  rw [<- hx, List.getD_eq_getElem?_getD, List.getElem?_eq_getElem (by omega)]
  exact List.getElem_mem _
 have hT := h.ji.td x hm
 have htd : ∀ b, b ∈ s.td -> b ∈ s.td.take (s.td.length - 1) \/ b = x := fun b hb => by
  have e := take_snoc s.td (s.td.length - 1) (by omega) 0
  rw [show s.td.length - 1 + 1 = s.td.length from by omega, List.take_length, hx] at e
  have hb2 : b ∈ s.td.take (s.td.length - 1) ++ [x] := by
   rw [<- e]
   exact hb
  rcases List.mem_append.1 hb2 with hb | hb
  ·exact Or.inl hb
  ·exact Or.inr (List.mem_singleton.1 hb)
 have hs := h.ji.sum
 have el : (s.td.take (s.td.length - 1)).length = s.td.length - 1 := by rw [List.length_take]; omega
 have j0 : JI k { s with td := s.td.take (s.td.length - 1) } := ⟨h.ji.nd, h.ji.ps, fun a ha => h.ji.td a (List.mem_of_mem_take ha), h.ji.ep, h.ji.tl, by
  show k.lost s + (s.td.take (s.td.length - 1)).length + s.ep.length <= _
  omega⟩
 have h0 : Mg k (fun b => b = x) { s with td := s.td.take (s.td.length - 1) } := ⟨j0, h.self, fun a ha => h.td a (List.mem_of_mem_take ha), fun a ha hfa => by
  rcases h.cmp a ha hfa with q | q | q
  ·exact (htd a q).imp id Or.inl
  ·exact absurd q id
  ·exact Or.inr (Or.inr ⟨q.p, q.w, q.e⟩)⟩
 obtain ⟨m1, m2⟩ := h0.lk hT (by
  show k.lost s + (s.td.take (s.td.length - 1)).length + s.ep.length + 1 <= _
  omega)
 have e1 : k.l1 s = k.lk { s with td := s.td.take (s.td.length - 1) } x := by unfold Jk.l1; rw [hx]
 rw [e1]
 exact ⟨m1, ⟨fun b hb => m2.f b hb⟩⟩
theorem Mg.lm : ∀ (n : Nat) {s : Js}, Mg k (fun _ => False) s -> Mg k (fun _ => False) (k.lm n s) /\ Mle k s (k.lm n s)
 | 0, s, h => ⟨h, Mle.refl _⟩
 | n + 1, s, h => by
  unfold Jk.lm
  by_cases c : 0 < s.td.length
  ·rw [if_pos c]
   obtain ⟨h1, h2⟩ := h.l1 c
   obtain ⟨j1, j2⟩ := Mg.lm n h1
   exact ⟨j1, h2.trans j2⟩
  ·rw [if_neg c]
   exact ⟨h, Mle.refl _⟩
theorem Mg.LM (h : Mg k (fun _ => False) s) : Mg k (fun _ => False) (k.LM s) /\ Mle k s (k.LM s) /\ (k.LM s).td = [] := by
 obtain ⟨h1, h2⟩ := Mg.lm (k.lost s + s.td.length + 1) h
 exact ⟨h1, h2, LM_td h.ji⟩
theorem Mg.kvl : ∀ (l : List Int) {t : List Int × Js}, Mg k X t.2 -> Mg k X (l.foldl k.kv1 t).2 /\ Mle k t.2 (l.foldl k.kv1 t).2 /\ (l.foldl k.kv1 t).2.ep = t.2.ep /\ (∀ a ∈ t.1, a ∈ (l.foldl k.kv1 t).1) /\ ∀ a ∈ l, a ∈ (l.foldl k.kv1 t).1 \/ k.jl (l.foldl k.kv1 t).2 (k.ld (a + 2)) = false
 | [], t, h => ⟨h, Mle.refl _, rfl, fun _ q => q, fun a ha => by cases ha⟩
 | a :: l, t, h => by
  rw [List.foldl_cons]
  have key : Mg k X (k.kv1 t a).2 /\ Mle k t.2 (k.kv1 t a).2 /\ (k.kv1 t a).2.ep = t.2.ep /\ (∀ b ∈ t.1, b ∈ (k.kv1 t a).1) /\ (a ∈ (k.kv1 t a).1 \/ k.jl (k.kv1 t a).2 (k.ld (a + 2)) = false) := by
   unfold Jk.kv1
   split
   ·exact ⟨h, Mle.refl _, rfl, fun b hb => List.mem_append_left _ hb, Or.inl (by simp)⟩
   ·obtain ⟨m1, m2, m3⟩ := h.ma (k.ld (a + 2))
    exact ⟨m1, m2, ma_ep _ _ _, fun _ hb => hb, Or.inr m3⟩
  obtain ⟨k1, k2, k3, k4, k5⟩ := key
  obtain ⟨i1, i2, i3, i4, i5⟩ := Mg.kvl l k1
  refine ⟨i1, k2.trans i2, i3.trans k3, fun b hb => i4 b (k4 b hb), fun b hb => ?_⟩
  rcases List.mem_cons.1 hb with e | hb
  ·rw [e]
   exact k5.imp (i4 a) i2.jl
  ·exact i5 b hb
theorem Mg.kv (h : Mg k (fun _ => False) s) : Mg k (fun _ => False) (k.kv s).2 /\ Mle k s (k.kv s).2 := by
 obtain ⟨h1, h2, h3, _, h5⟩ := Mg.kvl s.ep (t := ([], s)) h
 have h1 : Mg k (fun _ => False) (k.kvf s s.ep).2 := h1
 have h2 : Mle k s (k.kvf s s.ep).2 := h2
 have h3 : (k.kvf s s.ep).2.ep = s.ep := h3
 have h5 : ∀ a ∈ s.ep, a ∈ (k.kvf s s.ep).1 \/ k.jl (k.kvf s s.ep).2 (k.ld (a + 2)) = false := h5
 have le : Mle k (k.kvf s s.ep).2 (k.kv s).2 := ⟨fun _ _ => rfl⟩
 refine ⟨⟨h.ji.kv.1, h1.self, h1.td, fun a ha hf => ?_⟩, h2.trans le⟩
 rcases h1.cmp a ha hf with q | q | q
 ·exact Or.inl q
 ·exact absurd q id
 ·refine Or.inr (Or.inr ⟨fun c => le.flt (q.p c), fun c => le.jl (q.w c), fun c => ?_⟩)
  rcases q.e c with d | d
  ·rw [h3] at d
   exact (h5 a d).imp id le.jl
  ·exact Or.inr (le.jl d)
theorem kv_none : ∀ (l : List Int) (t : List Int × Js), t.1.length + l.length <= (l.foldl k.kv1 t).1.length -> l.foldl k.kv1 t = (t.1 ++ l, t.2) /\ ∀ a ∈ l, k.jl t.2 (k.ld (a + 1)) = true
 | [], t, _ => ⟨by simp, fun a ha => by cases ha⟩
 | a :: l, t, h => by
  have hle : ∀ (l : List Int) (t : List Int × Js), (l.foldl k.kv1 t).1.length <= t.1.length + l.length := fun l => by
   induction l with
   | nil => intro t; simp
   | cons b l ih =>
    intro t
    rw [List.foldl_cons]
    have q := ih (k.kv1 t b)
    have q2 : (k.kv1 t b).1.length <= t.1.length + 1 := by
     unfold Jk.kv1
     split
     ·simp
     ·simp
    simp only [List.length_cons]
    omega
  rw [List.foldl_cons] at h ⊢
  simp only [List.length_cons] at h
  by_cases c : k.jl t.2 (k.ld (a + 1)) = true
  ·have e : k.kv1 t a = (t.1 ++ [a], t.2) := by unfold Jk.kv1; rw [if_pos c]
   rw [e] at h ⊢
   obtain ⟨q1, q2⟩ := kv_none l (t.1 ++ [a], t.2) (by simp only [List.length_append, List.length_cons, List.length_nil]; omega)
   rw [q1]
   refine ⟨by simp, fun b hb => ?_⟩
   rcases List.mem_cons.1 hb with e | hb
   ·rw [e]; exact c
   ·exact q2 b hb
  ·have e : k.kv1 t a = (t.1, k.ma t.2 (k.ld (a + 2))) := by unfold Jk.kv1; rw [if_neg c]
   rw [e] at h
   have := hle l (t.1, k.ma t.2 (k.ld (a + 2)))
   dsimp only at this
   omega
theorem kv_still (h : (k.kv s).1 = false) : (k.kv s).2 = s /\ ∀ a ∈ s.ep, k.jl s (k.ld (a + 1)) = true := by
 have h1 : ¬ (k.kvf s s.ep).1.length < s.ep.length := of_decide_eq_false h
 obtain ⟨q1, q2⟩ := kv_none (k := k) s.ep ([], s) (by
  show 0 + s.ep.length <= (k.kvf s s.ep).1.length
  omega)
 have q1 : k.kvf s s.ep = (s.ep, s) := by
  have : k.kvf s s.ep = ([] ++ s.ep, s) := q1
  simpa using this
 refine ⟨?_, q2⟩
 unfold Jk.kv
 rw [q1]
end
end Go.Proofs.YtnalfnlmaallmaaGreat

namespace Go.Proofs.YtnalfnlmaallmaaGreat
open Go.RowKit W Kp Stl
structure Dn (k : Jk) (s : Js) (q : List En) : Prop where
  mg : Mg k (fun _ => False) s
  td : s.td = []
  ep : ∀ a ∈ s.ep, k.jl s (k.ld (a + 1)) = true
  wq : ∀ e ∈ q, k.al s e.2 = true \/ k.al s e.1 = false
section
variable {k : Jk} {s : Js}
theorem al_le {t : Js} (l : Mle k s t) {x : Int} (h : k.al s x = true) : k.al t x = true := by
 unfold Jk.al at h ⊢
 rw [l.jl (by simpa using h)]
 rfl
theorem set_getD {α : Type} (l : List α) (i : Nat) (d : α) : l.set i (l.getD i d) = l := by
 by_cases h : i < l.length
 ·rw [List.getD_eq_getElem?_getD, List.getElem?_eq_getElem h]
  simp
 ·rw [List.set_eq_of_length_le (by omega)]
theorem Mg.wal : ∀ (l : List Nat) (t : (Js × List En) × Bool), Mg k (fun _ => False) t.1.1 -> Mg k (fun _ => False) (l.foldl (wkP k.al k.mp) t).1.1 /\ Mle k t.1.1 (l.foldl (wkP k.al k.mp) t).1.1 /\ (l.foldl (wkP k.al k.mp) t).1.2 = t.1.2 /\
  ((l.foldl (wkP k.al k.mp) t).2 = false -> t.2 = false /\ l.foldl (wkP k.al k.mp) t = t /\ ∀ i ∈ l, k.al t.1.1 (t.1.2.getD i (0, 0)).2 = true \/ k.al t.1.1 (t.1.2.getD i (0, 0)).1 = false)
 | [], t, h => ⟨h, Mle.refl _, rfl, fun e => ⟨e, rfl, fun i hi => by cases hi⟩⟩
 | i :: l, t, h => by
  rw [List.foldl_cons]
  by_cases c : (k.al t.1.1 (t.1.2.getD i (0, 0)).2 || !k.al t.1.1 (t.1.2.getD i (0, 0)).1) = true
  ·have e : wkP k.al k.mp t i = t := by unfold wkP; rw [if_pos c]
   rw [e]
   obtain ⟨i1, i2, i3, i4⟩ := Mg.wal l t h
   refine ⟨i1, i2, i3, fun q => ?_⟩
   obtain ⟨q1, q2, q3⟩ := i4 q
   refine ⟨q1, q2, fun j hj => ?_⟩
   rcases List.mem_cons.1 hj with e | hj
   ·rw [e]
    rw [Bool.or_eq_true] at c
    exact c.imp id (fun c => by simpa using c)
   ·exact q3 j hj
  ·have e : wkP k.al k.mp t i = ((k.ma t.1.1 (t.1.2.getD i (0, 0)).2, t.1.2), true) := by
    unfold wkP
    rw [if_neg c]
    show ((k.ma t.1.1 (t.1.2.getD i (0, 0)).2, t.1.2.set i ((t.1.2.getD i (0, 0)).1, (t.1.2.getD i (0, 0)).2)), true) = _
    have e2 : t.1.2.set i ((t.1.2.getD i (0, 0)).1, (t.1.2.getD i (0, 0)).2) = t.1.2 := set_getD _ _ _
    rw [e2]
   rw [e]
   obtain ⟨m1, m2, _⟩ := h.ma (t.1.2.getD i (0, 0)).2
   obtain ⟨i1, i2, i3, i4⟩ := Mg.wal l ((k.ma t.1.1 (t.1.2.getD i (0, 0)).2, t.1.2), true) m1
   refine ⟨i1, m2.trans i2, i3, fun q => ?_⟩
   have := (i4 q).1
   cases this
theorem Mg.wa {t : Js × List En} (h : Mg k (fun _ => False) t.1) : Mg k (fun _ => False) (k.wa t).1.1 /\ Mle k t.1 (k.wa t).1.1 /\ (k.wa t).1.2 = t.2 /\ ((k.wa t).2 = false -> (k.wa t).1 = t /\ ∀ e ∈ t.2, k.al t.1 e.2 = true \/ k.al t.1 e.1 = false) := by
 obtain ⟨h1, h2, h3, h4⟩ := Mg.wal (List.range t.2.length) (t, false) h
 refine ⟨h1, h2, h3, fun q => ?_⟩
 obtain ⟨_, q2, q3⟩ := h4 q
 refine ⟨?_, fun e he => ?_⟩
 ·show (wkQ k.al k.mp t t.2.length).1 = t
  unfold wkQ
  rw [q2]
 ·obtain ⟨i, hi, e1⟩ := List.mem_iff_getElem.1 he
  have := q3 i (by simpa using hi)
  have e2 : t.2.getD i (0, 0) = e := by
   rw [List.getD_eq_getElem?_getD, List.getElem?_eq_getElem hi, e1]
   rfl
  dsimp only at this
  rw [e2] at this
  exact this
theorem Mg.spr : ∀ (n : Nat) (t : Js × List En), Mg k (fun _ => False) t.1 -> Mg k (fun _ => False) (k.spr n t).1 /\ Mle k t.1 (k.spr n t).1 /\ (k.spr n t).2 = t.2 /\ (k.mu t.1 < n -> Dn k (k.spr n t).1 (k.spr n t).2)
 | 0, t, h => ⟨h, Mle.refl _, rfl, fun e => by omega⟩
 | n + 1, t, h => by
  obtain ⟨l1, l2, l3⟩ := h.LM
  obtain ⟨v1, v2⟩ := l1.kv
  have m1 := (Jl.LM h.ji).mu
  obtain ⟨m2, m3⟩ := Jl.kv l1.ji
  unfold Jk.spr
  by_cases c : (k.kv (k.LM t.1)).1 = true
  ·rw [if_pos c]
   obtain ⟨i1, i2, i3, i4⟩ := Mg.spr n ((k.kv (k.LM t.1)).2, t.2) v1
   have := m3 c
   exact ⟨i1, (l2.trans v2).trans i2, i3, fun e => i4 (by dsimp only; omega)⟩
  ·rw [if_neg c]
   have c2 : (k.kv (k.LM t.1)).1 = false := by simpa using c
   obtain ⟨s1, s2⟩ := kv_still c2
   rw [s1]
   obtain ⟨w1, w2, w3, w4⟩ := Mg.wa (t := (k.LM t.1, t.2)) l1
   by_cases d : (k.wa (k.LM t.1, t.2)).2 = true
   ·rw [if_pos d]
    obtain ⟨i1, i2, i3, i4⟩ := Mg.spr n (k.wa (k.LM t.1, t.2)).1 w1
    have := (Jl.wa (t := (k.LM t.1, t.2)) l1.ji).2.2 d
    dsimp only at this
    exact ⟨i1, (l2.trans w2).trans i2, i3.trans w3, fun e => i4 (by omega)⟩
   ·rw [if_neg d]
    have d2 : (k.wa (k.LM t.1, t.2)).2 = false := by simpa using d
    obtain ⟨q1, q2⟩ := w4 d2
    rw [q1]
    exact ⟨l1, l2, rfl, fun _ => ⟨l1, l3, s2, q2⟩⟩
theorem Mg.sp {t : Js × List En} (h : Mg k (fun _ => False) t.1) : Dn k (k.sp t).1 (k.sp t).2 /\ Mle k t.1 (k.sp t).1 /\ (k.sp t).2 = t.2 := by
 obtain ⟨h1, h2, h3, h4⟩ := Mg.spr (k.mu t.1 + 1) t h
 exact ⟨h4 (by omega), h2, h3⟩
theorem Mg.ke {t : Js × List En} (h : Mg k (fun _ => False) t.1) (x : Int) : Dn k (k.ke t x).2.1 (k.ke t x).2.2 /\ Mle k t.1 (k.ke t x).2.1 /\ (k.ke t x).2.2 = t.2 /\ k.al (k.ke t x).2.1 x = true := by
 obtain ⟨m1, m2, m3⟩ := h.ma x
 obtain ⟨h1, h2, h3⟩ := Mg.sp (t := (k.ma t.1 x, t.2)) m1
 refine ⟨h1, m2.trans h2, h3, ?_⟩
 have q := h2.jl m3
 show (!k.jl _ x) = true
 have q : k.jl (k.sp (k.ma t.1 x, t.2)).1 x = false := q
 show (!k.jl (k.sp (k.ma t.1 x, t.2)).1 x) = true
 rw [q]
 rfl
def Jk.cmJ (k : Jk) : Js × List En -> En -> Bool × (Js × List En) := cm (noSd Js) (fun s x => k.al s.1 x) k.ke
theorem Dn.cm {t : Js × List En} (h : Dn k t.1 t.2) (e : En) : Dn k (k.cmJ t e).2.1 (k.cmJ t e).2.2 /\ Mle k t.1 (k.cmJ t e).2.1 := by
 unfold Jk.cmJ
 cases c : k.al t.1 e.1
 ·rw [cm_no (o := noSd Js) (is := fun s x => k.al s.1 x) (kp := k.ke) (s := t) (e := e) c]
  exact ⟨h, Mle.refl _⟩
 ·rw [cm_yes (o := noSd Js) (is := fun s x => k.al s.1 x) (kp := k.ke) (s := t) (e := e) c]
  obtain ⟨h1, h2, h3, h4⟩ := h.mg.ke e.2
  show Dn k (k.ke t e.2).2.1 ((k.ke t e.2).2.2 ++ [(e.1, e.2)]) /\ Mle k t.1 (k.ke t e.2).2.1
  refine ⟨⟨h1.mg, h1.td, h1.ep, fun d hd => ?_⟩, h2⟩
  rcases List.mem_append.1 hd with hd | hd
  ·exact h1.wq d hd
  ·rw [List.mem_singleton.1 hd]
   exact Or.inl h4
theorem Dn.pl : ∀ (l : List En) (u : List En × List En × (Js × List En)), Dn k u.2.2.1 u.2.2.2 -> Dn k (l.foldl (pstep k.cmJ) u).2.2.1 (l.foldl (pstep k.cmJ) u).2.2.2 /\ Mle k u.2.2.1 (l.foldl (pstep k.cmJ) u).2.2.1
 | [], u, h => ⟨h, Mle.refl _⟩
 | e :: l, u, h => by
  rw [List.foldl_cons]
  have key : (pstep k.cmJ u e).2.2 = (k.cmJ u.2.2 e).2 := by
   unfold pstep
   split <;> rfl
  obtain ⟨c1, c2⟩ := h.cm e
  rw [<- key] at c1 c2
  obtain ⟨i1, i2⟩ := Dn.pl l (pstep k.cmJ u e) c1
  exact ⟨i1, c2.trans i2⟩
theorem Dn.trn : ∀ (n : Nat) (t : Js × List En) (d : List En), Dn k t.1 t.2 -> Dn k (trn k.cmJ n t d).1.1 (trn k.cmJ n t d).1.2 /\ Mle k t.1 (trn k.cmJ n t d).1.1
 | 0, t, d, h => ⟨h, Mle.refl _⟩
 | n + 1, t, d, h => by
  obtain ⟨p1, p2⟩ := Dn.pl d ([], [], t) h
  have p1 : Dn k (pts k.cmJ t d).2.2.1 (pts k.cmJ t d).2.2.2 := p1
  have p2 : Mle k t.1 (pts k.cmJ t d).2.2.1 := p2
  by_cases c : (pts k.cmJ t d).1.length = 0
  ·rw [trn_stop _ _ _ _ c]
   exact ⟨p1, p2⟩
  ·rw [trn_go _ _ _ _ c]
   obtain ⟨i1, i2⟩ := Dn.trn n (pts k.cmJ t d).2.2 (pts k.cmJ t d).2.1 p1
   exact ⟨i1, p2.trans i2⟩
theorem Dn.sS {t : Js × List En} (h : Dn k t.1 t.2) (r : List En) : Dn k (k.sS t r).1 (k.sS t r).2 /\ Mle k t.1 (k.sS t r).1 := Dn.trn _ t _ h
theorem Mg.start (h : JI k js0) {X : Int -> Prop} : Mg k X js0 := ⟨h, fun _ _ hf => absurd rfl hf, fun _ ha => by simp [js0] at ha, fun _ _ hf => absurd rfl hf⟩
theorem Mg.kr {X : Int -> Prop} (h : Mg k X s) : ∀ n, Mg k X (k.kr s n) /\ Mle k s (k.kr s n) /\ ∀ i, i < n -> k.jl (k.kr s n) (k.s.rs.getD i 0) = false
 | 0 => ⟨h, Mle.refl _, fun i hi => by omega⟩
 | n + 1 => by
  obtain ⟨h1, h2, h3⟩ := Mg.kr h n
  obtain ⟨j1, j2, j3⟩ := h1.ma (k.s.rs.getD n 0)
  refine ⟨j1, h2.trans j2, fun i hi => ?_⟩
  by_cases e : i = n
  ·rw [e]; exact j3
  ·exact j2.jl (h3 i (by omega))
end
theorem settled_all {a : Wc} {S : Ww} (hI : JI (S.s.j0 a) js0) : Dn (S.s.j0 a) (S.j3 a) ((S.s.j0 a).sS (S.j2 a) S.r).2 /\ Mle (S.s.j0 a) (S.j2 a).1 (S.j3 a) /\ ∀ i, i < 12 -> (S.s.j0 a).jl (S.j3 a) (S.s.rs.getD i 0) = false := by
 obtain ⟨h1, _, h3⟩ := (Mg.start (X := fun _ => False) hI).kr 12
 obtain ⟨d1, d2, _⟩ := Mg.sp (t := ((S.s.j0 a).kr js0 12, S.q)) h1
 obtain ⟨e1, e2⟩ := Dn.sS (t := S.j2 a) d1 S.r
 have d2 : Mle (S.s.j0 a) ((S.s.j0 a).kr js0 12) (S.j2 a).1 := d2
 exact ⟨e1, e2, fun i hi => e2.jl (d2.jl (h3 i hi))⟩
end Go.Proofs.YtnalfnlmaallmaaGreat

namespace Go.Proofs.YtnalfnlmaallmaaGreat
set_option maxRecDepth 100000
set_option maxHeartbeats 2000000
open Go.RowKit W Kp Stl
theorem things2_any {p q N O y g : Nat} {ws : List Int} (w : World) (h : At w p q N O y g ws) :
  Calls Tryz.prog 124 #[.pointer (some ⟨p, 0, none⟩)] w fun e w' => ∃ v1 v2, e = .returned (.tuple #[v1, v2]) /\ w'.ownsRow w.heap.size 3 1 v1 (thY N y g ws).length ((thY N y g ws).map (Value.int .i64)) /\ w'.ownsRow w.heap.size 3 1 v2 (thO N y g ws).length ((thO N y g ws).map (Value.int .i64)) /\ (∀ b, some b = v1.ownBlock -> some b ≠ v2.ownBlock) /\ Below w.heap.size w w' := by
 obtain ⟨c0, c1, c2, c3, c4, c5, c6⟩ := h.cells
 have lp := h.ltp
 have lq := h.ltq
 have k1 := h.hN'
 have k2 := h.hy
 have k3 := h.hO
 have k4 := h.hg
 go_enter Tryz.func124, Tryz.ntmps124
 go_wp2_with fail
 refine (each1_any 0 N y w.heap.size _ ((h.alloc _).alloc _) ((Below.heap_alloc _ _ _ (by simp)).trans (heap_alloc_new _ _)) (by omega) (by omega) (by omega) (by omega) (by omega) (by omega)).mono ?_
 rintro e w1 ⟨rfl, v1, hc1, hown1, hS1⟩
 have h1 : At w1 p q N O y g ws := ((h.alloc _).alloc _).same (hS1.block p (by simp; omega) (by omega)) (hS1.block q (by simp; omega) (by omega))
 have hc2 : w1.heap[w.heap.size + 1]? = some (.cells #[.slice none 0 0] 81 (0, 0)) := (hS1.block (w.heap.size + 1) (by simp) (by omega)).trans (new_top _ (by simp))
 have CC1 : Hid (w1.heap[w.heap.size]? = some (.cells #[v1] 81 (0, 0))) := hc1
 have CC2 : Hid (w1.heap[w.heap.size + 1]? = some (.cells #[.slice none 0 0] 81 (0, 0))) := hc2
 have hz1 := hS1.size
 simp only [World.size_alloc] at hz1
 clear hc1 hc2 c0 c1 c2 c3 c4 c5 c6
 obtain ⟨c0, c1, c2, c3, c4, c5, c6⟩ := h1.cells
 go_wp2_with fail
 refine (each2_any N O g (w.heap.size + 1) _ h1 CC2.out (by omega) (by omega) (by omega) (by omega) (by omega) (by omega)).mono ?_
 rintro e w2 ⟨rfl, v2, hc2, hown2, hS2⟩
 have x1 : w2.cell? ⟨w.heap.size, 0, none⟩ = some v1 := by
  have := (hS2.block w.heap.size (by omega) (by omega)).trans CC1.out
  simp [World.cell?, this]
 have x2 : w2.cell? ⟨w.heap.size + 1, 0, none⟩ = some v2 := by simp [World.cell?, hc2]
 have hz2 := hS2.size
 clear hc2
 go_wp2_with fail
 go_quiet (fail)
 go_wp2_with fail
 go_ret2
 have hap : ∀ b, some b = v1.ownBlock -> some b ≠ v2.ownBlock := fun b e e' => by
  have q1 := (row_lt hown1 b e).2
  have q2 := (row_lt hown2 b e').1
  omega
 simp only [World.size_alloc] at hown1 hS1
 have e1 : thY N y g ws = ths N y g ws (0 + (y : Int)) 2000 0 := by rw [Int.zero_add]; rfl
 refine ⟨v1, v2, rfl, ?_, ?_, hap, ?_⟩
 ·rw [e1]
  exact owned_below (owned_mono (base := w.heap.size + 1 + 1) (owned_sb hown1 hS2 (Nat.le_refl _) (by omega)) (by omega)) (below_drewN (Below.refl _ _) _)
 ·exact owned_below (owned_mono hown2 (by omega)) (below_drewN (Below.refl _ _) _)
 ·exact below_drewN ((((Below.refl _ _).alloc (Nat.le_refl _) _).alloc (by simp) _).trans ((hS1.below (by omega) (Nat.le_refl _)).trans (hS2.below (by omega) (by omega)))) _
theorem delFI_nil (f : Nat) (c : Array Value) (p : Int -> Bool) (hf : Ent f) (w : World) :
  Calls Tryz.prog 234 #[.slice none 0 0, .func (.func f) #[] c] w fun r w' => r = .returned (.slice none 0 0) /\ Below w.heap.size w w' := by
 have P := indexFI_any f c p hf w [] (fun w' x hx _ => by cases hx) none 0 (by simp) (fun h => by simp at h)
 clear hf
 go_enter Tryz.func234, Tryz.ntmps234
 go_wp2_with fail
 refine P.mono ?_
 clear P
 rintro r w1 ⟨hb1, ⟨rfl, _⟩ | ⟨i0, _, hi0, _⟩⟩
 ·go_wp2_with fail
  go_ret
  exact ⟨rfl, hb1⟩
 ·simp at hi0
theorem delFI_both (f : Nat) (c : Array Value) (p : Int -> Bool) (hf : Ent f) (w : World) (l : List Int) (ad : Option Addr) (cap B : Nat)
  (hl : ∀ (w' : World) (x : Int), x ∈ l -> Fr (fun b => some b = (Value.slice ad l.length cap).ownBlock) w w' -> Calls Tryz.prog f (#[.int .i64 x] ++ c) w' fun r w'' => r = .returned (.bool (p x)) /\ Below w'.heap.size w' w'')
  (hm : l.length <= 100000) (hr : w.ownsRow B 3 1 (.slice ad l.length cap) l.length (l.map (Value.int .i64))) :
  Calls Tryz.prog 234 #[.slice ad l.length cap, .func (.func f) #[] c] w fun r w' => r = .returned (.slice ad (kpL p l).length cap) /\ w'.ownsRow B 3 1 (.slice ad (kpL p l).length cap) (kpL p l).length ((kpL p l).map (Value.int .i64)) /\ Fr (fun b => some b = (Value.slice ad l.length cap).ownBlock) w w' := by
 rcases hr.2 with ⟨hv, hn⟩ | ⟨g, cap', cur, hv, _⟩
 ·have hl0 : l = [] := List.eq_nil_of_length_eq_zero hn
  subst hl0
  simp at hv
  obtain ⟨rfl, rfl⟩ := hv
  refine (delFI_nil f c p hf w).mono ?_
  rintro r w' ⟨rfl, hb⟩
  exact ⟨rfl, World.ownsRow_nil _ _ _ _, Fr.of hb⟩
 ·simp at hv
  obtain ⟨rfl, rfl⟩ := hv
  have e : ∀ n cap, (fun b => some b = (Value.slice (some ⟨g, 0, none⟩) n cap).ownBlock) = (fun b => b = g) := fun n cap => by
   funext b
   simp [Value.ownBlock]
  rw [e] at hl ⊢
  exact delFI_any f c p hf w l g cap B hl hm hr
theorem wholeJ_any {pk pw p q N O y g : Nat} {ws : List Int} (w : World) (hA : At w p q N O y g ws) (c1 : w.cell? ⟨pk, 0, none⟩ = some (.pointer (some ⟨pw, 0, none⟩))) (c2 : w.cell? ⟨pw, 0, none⟩ = some (.pointer (some ⟨p, 0, none⟩))) (l : List Int) (ad : Option Addr) (cap B : Nat) (e : Int) (hl : l.length <= 100000) (hlb : ∀ x ∈ l, 0 <= x /\ x <= 100000)
  (hr : w.ownsRow B 3 1 (.slice ad l.length cap) l.length (l.map (Value.int .i64))) (hB : pk < B /\ pw < B /\ p < B /\ q < B) :
  Calls Tryz.prog 200 #[.pointer (some ⟨pk, 0, none⟩), .slice ad l.length cap, .int .i64 e] w fun r w' => r = .returned (.slice ad (kpL (fun x => decide (e <= x + pf (ld N y g ws x))) l).length cap) /\ w'.ownsRow B 3 1 (.slice ad (kpL (fun x => decide (e <= x + pf (ld N y g ws x))) l).length cap) (kpL (fun x => decide (e <= x + pf (ld N y g ws x))) l).length ((kpL (fun x => decide (e <= x + pf (ld N y g ws x))) l).map (Value.int .i64)) /\ Fr (fun b => some b = (Value.slice ad l.length cap).ownBlock) w w' := by
 have hmf : ∀ (fn : Fn) (first cap : Array Value) (w : World), (Instr.makeFunc fn first cap).run Tryz.prog w = .ok (.func fn first cap) w := fun _ _ _ _ => rfl
 obtain ⟨W, hW⟩ : ∃ W, W = (w.alloc (.cells #[.pointer (some ⟨pk, 0, none⟩)] 195)).alloc (.cells #[.int .i64 e] 3) := ⟨_, rfl⟩
 have hb0 : Below w.heap.size w W := by rw [hW]; exact ((Below.refl _ w).alloc (Nat.le_refl _) _).alloc (by simp) _
 have x0 : W.heap[w.heap.size]? = some (.cells #[.pointer (some ⟨pk, 0, none⟩)] 195 (0, 0)) := by
  rw [hW, Below.heap_alloc _ _ _ (by simp)]
  exact heap_alloc_new _ _
 have x1 : W.heap[w.heap.size + 1]? = some (.cells #[.int .i64 e] 3 (0, 0)) := by
  rw [hW]
  simpa using heap_alloc_new (w.alloc (.cells #[.pointer (some ⟨pk, 0, none⟩)] 195)) (.cells #[.int .i64 e] 3)
 have lk := World.block_lt_of_cell? w _ c1
 have lw := World.block_lt_of_cell? w _ c2
 have lp := hA.ltp
 have lq := hA.ltq
 have hs0 : W.heap.size = w.heap.size + 2 := by rw [hW]; simp
 have hrW : W.ownsRow B 3 1 (.slice ad l.length cap) l.length (l.map (Value.int .i64)) := row_keep hr (fun b e => hb0.block b (row_lt hr b e).2)
 have P := delFI_both 235 #[.pointer (some ⟨w.heap.size, 0, none⟩), .pointer (some ⟨w.heap.size + 1, 0, none⟩)] (fun x => decide (e <= x + pf (ld N y g ws x))) ent_wh1 W l ad cap B (fun w' x hx hf => by
  have hn : ∀ b, some b = (Value.slice ad l.length cap).ownBlock -> B <= b /\ b < w.heap.size := fun b e => row_lt hr b e
  have k0 : ∀ b, b < B -> b < w.heap.size -> w'.heap[b]? = w.heap[b]? := fun b hb hb2 => (hf.block b (by omega) (fun e => by have := (hn b e).1; omega)).trans (hb0.block b hb2)
  have k1 : ∀ b, w.heap.size <= b -> b < W.heap.size -> w'.heap[b]? = W.heap[b]? := fun b hb hb2 => hf.block b hb2 (fun e => by have := (hn b e).2; omega)
  have y0 := (k1 w.heap.size (Nat.le_refl _) (by omega)).trans x0
  have y1 := (k1 (w.heap.size + 1) (by omega) (by omega)).trans x1
  exact whole1J_any w' (hA.same (k0 p hB.2.2.1 lp) (k0 q hB.2.2.2 lq)) (by simp [World.cell?, y0]) ((World.cell?_of_block (a := ⟨pk, 0, none⟩) (k0 pk hB.1 lk)).trans c1) ((World.cell?_of_block (a := ⟨pw, 0, none⟩) (k0 pw hB.2.1 lw)).trans c2) (by simp [World.cell?, y1]) x (hlb x hx)) hl hrW
 have HB : Hid (Below w.heap.size w W /\ ∀ b, some b = (Value.slice ad l.length cap).ownBlock -> b < w.heap.size) := ⟨hb0, fun b e => (row_lt hr b e).2⟩
 have HW0 : Hid (W = (w.alloc (.cells #[.pointer (some ⟨pk, 0, none⟩)] 195)).alloc (.cells #[.int .i64 e] 3)) := hW
 clear hA hr hrW x0 x1 hb0 hs0 hW lk lw lp lq c1 c2
 generalize (fun x => decide (e <= x + pf (ld N y g ws x))) = pp at P ⊢
 go_enter Tryz.func200, Tryz.ntmps200
 go_wp2_with fail
 rw [<- HW0.out]
 refine P.mono ?_
 clear P
 rintro r w1 ⟨rfl, hown, hf⟩
 have HF : Hid (w1.ownsRow B 3 1 (.slice ad (kpL pp l).length cap) (kpL pp l).length ((kpL pp l).map (Value.int .i64)) /\ Fr (fun b => some b = (Value.slice ad l.length cap).ownBlock) w w1) := ⟨hown, (Fr.of HB.out.1).trans hf (fun b e => Or.inl e)⟩
 clear hown hf
 go_wp2_with fail
 go_ret
 exact ⟨rfl, HF.out.1, HF.out.2⟩
theorem allR_any (w : World) (pk : Nat) (G Y : List Int) (ga ya : Option Addr) (gc yc : Nat) (d1 : w.cell? ⟨pk, 1, none⟩ = some (.slice ya Y.length yc)) (d2 : w.cell? ⟨pk, 2, none⟩ = some (.slice ga G.length gc)) (yr : w.ownsRow 0 3 1 (.slice ya Y.length yc) Y.length (Y.map (Value.int .i64))) (gr : w.ownsRow 0 3 1 (.slice ga G.length gc) G.length (G.map (Value.int .i64))) (hl : G.length + Y.length <= 4000) :
  Calls Tryz.prog 201 #[.pointer (some ⟨pk, 0, none⟩)] w fun e w' => ∃ a d, e = .returned (.slice a (G.length + Y.length) d) /\ w'.ownsRow w.heap.size 3 1 (.slice a (G.length + Y.length) d) (G.length + Y.length) ((G ++ Y).map (Value.int .i64)) /\ Below w.heap.size w w' := by
 have lk := World.block_lt_of_cell? w _ d1
 have hba := (Below.refl w.drew.heap.size w.drew).alloc (Nat.le_refl _) (.cells #[.slice ga G.length gc, .slice ya Y.length yc] 81)
 have hB0 : Below w.heap.size w (w.drew.alloc (.cells #[.slice ga G.length gc, .slice ya Y.length yc] 81)) := (Below.refl w.heap.size w).drew.trans (hba.mono (Nat.le_refl _))
 have hx := heap_alloc_new w.drew (.cells #[.slice ga G.length gc, .slice ya Y.length yc] 81)
 have P := concatI_any (w.drew.alloc (.cells #[.slice ga G.length gc, .slice ya Y.length yc] 81)) w.heap.size G Y ga ya gc yc (by simp only [World.cell?]; rw [show w.heap.size = w.drew.heap.size from rfl, hx]; rfl) (by simp only [World.cell?]; rw [show w.heap.size = w.drew.heap.size from rfl, hx]; rfl) (row_keep gr (fun b e => hB0.block b (row_lt gr b e).2)) (row_keep yr (fun b e => hB0.block b (row_lt yr b e).2)) (by omega)
 have HB0 : Hid (Below w.heap.size w (w.drew.alloc (.cells #[.slice ga G.length gc, .slice ya Y.length yc] 81))) := hB0
 clear yr gr hba hx hB0
 go_enter Tryz.func201, Tryz.ntmps201
 go_wp2_with fail
 go_region_held3 (fun w' => w'.cell? ⟨pk, 1, none⟩ = some (.slice ya Y.length yc) /\ w'.cell? ⟨pk, 2, none⟩ = some (.slice ga G.length gc)) (go_keep)
  (first
   | (go_at_call 236; refine P.mono ?_; clear P; rintro e w3 ⟨a, d, rfl, hown, hb⟩; have hB3 := HB0.out.trans (hb.mono HB0.out.size); have y1 := (hB3.cell (p := ⟨pk, 1, none⟩) lk).trans d1; have y2 := (hB3.cell (p := ⟨pk, 2, none⟩) lk).trans d2; have HO : Hid (w3.ownsRow w.heap.size 3 1 (.slice a (G.length + Y.length) d) (G.length + Y.length) ((G ++ Y).map (Value.int .i64)) /\ Below w.heap.size w w3) := ⟨row_base hown (fun b e => Nat.le_trans HB0.out.size (row_lt hown b e).1), hB3⟩; clear hown hb hB3))
 clear y1 y2 d1 d2
 go_wp2_with fail
 go_ret
 exact ⟨a, d, rfl, HO.out.1, HO.out.2⟩
end Go.Proofs.YtnalfnlmaallmaaGreat

namespace Go.Proofs.YtnalfnlmaallmaaGreat
open Go.RowKit W Kp Stl
end Go.Proofs.YtnalfnlmaallmaaGreat

namespace Go.Proofs.YtnalfnlmaallmaaGreat
set_option maxRecDepth 100000
set_option maxHeartbeats 1000000
open Go.RowKit W Kp Stl
structure Sds (w : World) (p : Nat) (a0 : Option Addr) (k0 : Nat) (a1 : Option Addr) (k1 : Nat) (r q : List En) : Prop where
  blk : w.heap[p]? = some (.cells #[.slice a0 r.length k0, .slice a1 q.length k1] 153 (0, 0))
  r0 : w.ownsRow 0 106 2 (.slice a0 r.length k0) r.length (ev r)
  q0 : w.ownsRow 0 106 2 (.slice a1 q.length k1) q.length (ev q)
theorem row_li {w : World} {base : Nat} {e : TypeId} {ad : Option Addr} {cap : Nat} {l : List En} (h : w.ownsRow base e 2 (.slice ad l.length cap) l.length (ev l)) : Li w ad l cap := by
 refine ⟨row_pairs h, ?_, ?_⟩
 ·rcases h.2 with ⟨hv, h0⟩ | ⟨g, cap', cur, hv, _, _, hc, _⟩
  ·omega
  ·simp at hv; omega
 ·intro e0
  rcases h.2 with ⟨hv, h0⟩ | ⟨g, cap', cur, hv, _⟩
  ·simp at hv; exact ⟨h0, hv.2.2⟩
  ·rw [e0] at hv; simp at hv
theorem Sds.keep {w w' : World} {p : Nat} {a0 a1 : Option Addr} {k0 k1 : Nat} {r q : List En} (h : Sds w p a0 k0 a1 k1 r q) (h1 : w'.heap[p]? = w.heap[p]?) (h2 : ∀ k, some k = (Value.slice a0 r.length k0).ownBlock -> w'.heap[k]? = w.heap[k]?) (h3 : ∀ k, some k = (Value.slice a1 q.length k1).ownBlock -> w'.heap[k]? = w.heap[k]?) : Sds w' p a0 k0 a1 k1 r q :=
 ⟨h1.trans h.blk, row_keep h.r0 h2, row_keep h.q0 h3⟩
theorem Sds.below {w w' : World} {p : Nat} {a0 a1 : Option Addr} {k0 k1 : Nat} {r q : List En} (h : Sds w p a0 k0 a1 k1 r q) (hb : Below w.heap.size w w') : Sds w' p a0 k0 a1 k1 r q :=
 h.keep (hb.block p (lt_of_some h.blk)) (fun k e => hb.block k (row_lt h.r0 k e).2) (fun k e => hb.block k (row_lt h.q0 k e).2)
theorem Sds.np {w : World} {p : Nat} {a0 a1 : Option Addr} {k0 k1 : Nat} {r q : List En} (h : Sds w p a0 k0 a1 k1 r q) {b n : Nat} {v : Value} {l : List Value} (hr : w.ownsRow b 106 2 v n l) : ∀ k, some k = v.ownBlock -> k ≠ p := by
 intro k e e'
 obtain ⟨cur, hc⟩ := row_type hr k e
 rw [e', h.blk] at hc
 simp at hc
def fulB (n : Nat) : Bool := decide (24 <= n)
theorem fulB_yes {n : Nat} (h : 24 <= n) : fulB n = true := by simp [fulB, h]
theorem fulB_no {n : Nat} (h : ¬ 24 <= n) : fulB n = false := by simp [fulB, h]
theorem ful_eq {n0 n1 : Nat} (h0 : n0 <= 100000) (h1 : n1 <= 100000) : Hid (decide ((24 : Int) <= IntKind.i64.wrap ((n0 : Int) + (n1 : Int))) = fulB (n0 + n1)) := by
 show _ = _
 rw [show IntKind.i64.wrap ((n0 : Int) + (n1 : Int)) = (n0 : Int) + n1 by rw [IntKind.wrap_i64]; omega]
 unfold fulB
 by_cases h : 24 <= n0 + n1
 ·rw [decide_eq_true h, decide_eq_true (by omega)]
 ·rw [decide_eq_false h, decide_eq_false (by omega)]
theorem full_any' (w : World) (p : Nat) (a0 a1 : Option Addr) (n0 k0 n1 k1 : Nat) (h : w.heap[p]? = some (.cells #[.slice a0 n0 k0, .slice a1 n1 k1] 153 (0, 0))) (h0 : n0 <= 100000) (h1 : n1 <= 100000) :
  Calls Tryz.prog 121 #[.pointer (some ⟨p, 0, none⟩)] w fun e w' => e = .returned (.bool (fulB (n0 + n1))) /\ Below w.heap.size w w' := by
 have c0 : w.cell? ⟨p, 0, none⟩ = some (.slice a0 n0 k0) := by simp [World.cell?, h]
 have c1 : w.cell? ⟨p, 1, none⟩ = some (.slice a1 n1 k1) := by simp [World.cell?, h]
 clear h
 have HE := ful_eq h0 h1
 go_enter Tryz.func121, Tryz.ntmps121
 go_wp2_with fail
 go_region_held3 (fun w' => w'.cell? ⟨p, 0, none⟩ = some (.slice a0 n0 k0) /\ w'.cell? ⟨p, 1, none⟩ = some (.slice a1 n1 k1)) (go_keep) (fail)
 go_wp2_with fail
 go_ret
 exact ⟨by rw [<- HE.out]; rfl, (Below.refl _ _).drew⟩
theorem Sds.cells {w : World} {p : Nat} {a0 a1 : Option Addr} {k0 k1 : Nat} {r q : List En} (h : Sds w p a0 k0 a1 k1 r q) : w.cell? ⟨p, 0, none⟩ = some (.slice a0 r.length k0) /\ w.cell? ⟨p, 1, none⟩ = some (.slice a1 q.length k1) /\ w.frozen? ⟨p, 0, none⟩ = false /\ w.frozen? ⟨p, 1, none⟩ = false /\ p < w.heap.size :=
 ⟨by simp [World.cell?, h.blk], by simp [World.cell?, h.blk], by simp [World.frozen?, h.blk], by simp [World.frozen?, h.blk], lt_of_some h.blk⟩
theorem set_fst {w : World} {p : Nat} {x y v : Value} {T : TypeId} (h : w.heap[p]? = some (.cells #[x, y] T (0, 0))) : (w.setCell ⟨p, 0, none⟩ v).heap[p]? = some (.cells #[v, y] T (0, 0)) := by
 simp only [World.setCell, Array.getElem?_modify, if_true, h, Option.map_some]
 simp
theorem reg_any (w : World) (p : Nat) (a0 a1 : Option Addr) (k0 k1 : Nat) (r q : List En) (g z : Int) (h : Sds w p a0 k0 a1 k1 r q) (h0 : r.length <= 90000) (h1 : q.length <= 90000) :
  Calls Tryz.prog 58 #[.pointer (some ⟨p, 0, none⟩), .agg #[.int .i64 g, .int .i64 z]] w fun e w' => e = .returned (.bool (!fulB (r.length + q.length))) /\
   ((24 <= r.length + q.length /\ Below w.heap.size w w') \/ (¬ 24 <= r.length + q.length /\ ∃ b1 c1, Sds w' p (some ⟨b1, 0, none⟩) c1 a1 k1 (r ++ [(g, z)]) q /\ w.heap.size <= b1 /\ Fr (fun k => k = p) w w')) := by
 obtain ⟨c0, c1, f0, f1, lp⟩ := h.cells
 have H : Hid (Sds w p a0 k0 a1 k1 r q) := h
 have hb1 := (Below.refl w.heap.size w).alloc (Nat.le_refl _) (.cells #[.int .i64 g, .int .i64 z] 106)
 have HLi : Hid (Li w a0 r k0) := row_li h.r0
 by_cases hf : 24 <= r.length + q.length
 ·rw [fulB_yes hf]
  clear h
  go_enter Tryz.func58, Tryz.ntmps58
  go_wp2_with fail
  refine (full_any' _ p a0 a1 r.length k0 q.length k1 ((hb1.block p lp).trans H.out.blk) (by omega) (by omega)).mono ?_
  rintro e w1 ⟨rfl, hb⟩
  rw [fulB_yes hf]
  have hb2 := hb1.trans (hb.mono (by simp))
  go_wp2_with fail
  go_ret
  exact ⟨rfl, Or.inl ⟨hf, hb2⟩⟩
 ·rw [fulB_no hf]
  clear h
  go_enter Tryz.func58, Tryz.ntmps58
  go_wp2_with fail
  refine (full_any' _ p a0 a1 r.length k0 q.length k1 ((hb1.block p lp).trans H.out.blk) (by omega) (by omega)).mono ?_
  rintro e w1 ⟨rfl, hb⟩
  rw [fulB_no hf]
  have hb2 := hb1.trans (hb.mono (by simp))
  have hl0 : w.heap.size < w1.heap.size := by have := hb.size; simp at this; omega
  have y0 : w1.cell? ⟨w.heap.size, 0, none⟩ = some (.int .i64 g) := (hb.cell (by simp)).trans (by simp)
  have y1 : w1.cell? ⟨w.heap.size, 1, none⟩ = some (.int .i64 z) := (hb.cell (by simp)).trans (by simp)
  have y2 := (hb2.cell (p := ⟨p, 0, none⟩) lp).trans c0
  have y3 := (hb2.frozen (p := ⟨p, 0, none⟩) lp).trans f0
  have lp1 : p < w1.heap.size := by omega
  have hLi1 := HLi.out.below hb2
  clear hb hb1
  go_wp2_with fail
  go_region_with (go_at_call 122; refine (with_any _ a0 r k0 g z (hLi1.below ((Below.refl _ _).drew)) (by omega)).mono ?_; rintro e w5 ⟨b1, cap1, rfl, hown, hb5⟩; have e4 := (hb5.cell (p := ⟨p, 0, none⟩) lp1).trans y2; have e5 := (hb5.frozen (p := ⟨p, 0, none⟩) lp1).trans y3)
  all_goals
   go_wp2_with fail
   go_ret
   refine ⟨rfl, Or.inr ⟨hf, b1, cap1, ?_⟩⟩
   have hbw : Below w.heap.size w w5 := hb2.drew.trans (hb5.mono (by simp; omega))
   have lb : w1.heap.size <= b1 := (row_lt hown b1 rfl).1
   have hS := H.out.below hbw
   have hfr : Fr (fun k => k = p) w (w5.setCell ⟨p, 0, none⟩ (.slice (some ⟨b1, 0, none⟩) (r.length + 1) cap1)) := (Fr.of hbw).set p 0 _ rfl
   have kk : ∀ k, k ≠ p -> (w5.setCell ⟨p, 0, none⟩ (.slice (some ⟨b1, 0, none⟩) (r.length + 1) cap1)).heap[k]? = w5.heap[k]? := fun k hk => Below.heap_setCell _ _ _ _ hk
   refine ⟨⟨by simpa using set_fst hS.blk, ?_, row_keep hS.q0 (fun k e => kk k (hS.np hS.q0 k e))⟩, by omega, hfr⟩
   have := row_base (base' := 0) (row_keep (w' := w5.setCell ⟨p, 0, none⟩ (.slice (some ⟨b1, 0, none⟩) (r.length + 1) cap1)) hown (fun k e => kk k (hS.np hown k e))) (fun _ _ => Nat.zero_le _)
   simpa using this
end Go.Proofs.YtnalfnlmaallmaaGreat

namespace Go.Proofs.YtnalfnlmaallmaaGreat
set_option maxRecDepth 100000
set_option maxHeartbeats 1000000
open Go.RowKit W Kp Stl
theorem copyS_any (w : World) (p : Nat) (a0 a1 : Option Addr) (k0 k1 : Nat) (r q : List En) (h : Sds w p a0 k0 a1 k1 r q) (h0 : r.length <= 90000) (h1 : q.length <= 90000) :
    Calls Tryz.prog 199 #[.pointer (some ⟨p, 0, none⟩)] w fun e w' => ∃ p' b0 c0 b1 c1, e = .returned (.pointer (some ⟨p', 0, none⟩)) /\ w.heap.size <= p' /\ Sds w' p' b0 c0 b1 c1 r q /\ (∀ z, b0 = some z -> w.heap.size <= z.block) /\ (∀ z, b1 = some z -> w.heap.size <= z.block) /\ (∀ k, some k = (Value.slice b0 r.length c0).ownBlock -> some k ≠ (Value.slice b1 q.length c1).ownBlock) /\ Below w.heap.size w w' := by
  obtain ⟨c0, c1, f0, f1, lp⟩ := h.cells
  have HR : Hid (Li w a0 r k0) := row_li h.r0
  have HQ : Hid (Li w a1 q k1) := row_li h.q0
  clear h f0 f1
  go_enter Tryz.func199, Tryz.ntmps199
  go_wp2_with fail
  have hd := (Below.refl w.heap.size w).drew
  go_region_held3 (fun w' => w'.cell? ⟨p, 0, none⟩ = some (.slice a0 r.length k0) /\ w'.cell? ⟨p, 1, none⟩ = some (.slice a1 q.length k1)) (first | exact ⟨c0, c1⟩ | exact ⟨u0, u1⟩ | exact ⟨v0, v1⟩ | go_keep)
    (first | (have hb8 := hb3; go_at_call 196; refine (cloneE_any _ a1 q k1 (HQ.out.below hb3) (by omega)).mono ?_; rintro e w5 ⟨d1, e1, rfl, hQ5, hb5⟩; have l5 := hb5.size; have v0 := (hb5.cell (p := ⟨p, 0, none⟩) (Nat.lt_of_lt_of_le lp l3)).trans u0; have v1 := (hb5.cell (p := ⟨p, 1, none⟩) (Nat.lt_of_lt_of_le lp l3)).trans u1)
           | (go_at_call 196; refine (cloneE_any _ a0 r k0 (HR.out.below hd) (by omega)).mono ?_; rintro e w3 ⟨d0, e0, rfl, hR3, hb3'⟩; have hb3 : Below w.heap.size w w3 := hd.trans hb3'; have l3 := hb3.size; have u0 := (hb3.cell (p := ⟨p, 0, none⟩) lp).trans c0; have u1 := (hb3.cell (p := ⟨p, 1, none⟩) lp).trans c1))
  go_wp2_with fail
  go_ret
  refine ⟨w5.heap.size, d0, e0, d1, e1, rfl, Nat.le_trans l3 l5, ⟨heap_alloc_new _ _, row_base (row_alloc (row_keep hR3 (fun k e => hb5.block k (row_lt hR3 k e).2)) _) (fun _ _ => Nat.zero_le _), row_base (row_alloc hQ5 _) (fun _ _ => Nat.zero_le _)⟩, fun z e => (row_lt hR3 z.block (by rw [e]; rfl)).1, fun z e => Nat.le_trans l3 (row_lt hQ5 z.block (by rw [e]; rfl)).1, fun k e e' => ?_, (hb3.trans (hb5.mono l3)).alloc (Nat.le_trans l3 l5) _⟩
  have q1 := (row_lt hR3 k e).2
  have q2 := (row_lt hQ5 k e').1
  omega
end Go.Proofs.YtnalfnlmaallmaaGreat
