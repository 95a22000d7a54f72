/- Joined: Mn2, Sat, Vw2. -/
import Derived.Test.YtnalfnlmaallmaaGreatJ08
import Derived.Test.YtnalfnlmaallmaaGreatJ04
import Derived.Test.YtnalfnlmaallmaaGreatJ00
import Derived.Test.YtnalfnlmaallmaaGreatJ06
namespace Go.Proofs.YtnalfnlmaallmaaGreat
open Go.RowKit W Kp Stl Apart2
section
variable {k : Ck} {s : Cs}
theorem CI.at_y (h : CI k s) {a : Int} (ha : a ∈ k.T) : 0 <= a /\ a < k.y /\ iB k.N k.y s.g a = true := by
 obtain ⟨h1, h2, h3⟩ := h.th a ha
 have h4 := pf_bd (k.ld s a)
 exact ⟨h1, by omega, iB_y h1 (by omega)⟩
theorem Ck.ld_st (hl : s.ws.length = k.N + k.O) (hy : k.y <= k.N) (hg : s.g <= k.O) (a x b : Int) : k.ld (k.st s a x) b = if b = a /\ iB k.N k.y s.g a = true then x else k.ld s b := by
 unfold Ck.ld Ck.st
 dsimp only
 by_cases ha : iB k.N k.y s.g a = true
 ·have hb := iB_bd (O := k.O) ha hy hg
  rw [if_pos ha]
  by_cases e : b = a
  ·subst e
   rw [if_pos ⟨rfl, ha⟩, ld_in ha, getD_set _ _ _ _ (by omega), if_pos rfl]
  ·rw [if_neg (fun c => e c.1)]
   unfold Proofs.YtnalfnlmaallmaaGreat.ld
   by_cases hi : iB k.N k.y s.g b = true
   ·have hb2 := iB_bd (O := k.O) hi hy hg
    rw [if_pos hi, if_pos hi, getD_set _ _ _ _ (by omega), if_neg (by omega)]
   ·rw [if_neg hi, if_neg hi]
 ·rw [if_neg ha, if_neg (fun c => ha c.2)]
theorem Ck.cp_eq {a : Int} (hc : cpB k.N k.O k.y s.g s.ws a = true) : k.cp s a = { s with g := s.g + (1 + (pf (k.ld s a)).toNat), ws := splice s.ws (k.N + s.g) ((s.ws.drop a.toNat).take (1 + (pf (k.ld s a)).toNat)), f := upf s.f a ((k.N + s.g : Nat) : Int) } := by
 unfold Ck.cp cpG cpW cpR Ck.ld
 rw [if_pos hc, if_pos hc, if_pos hc]
theorem splice_len {α : Type} (l m : List α) (t : Nat) (h : t + m.length <= l.length) : (splice l t m).length = l.length := by
 unfold splice
 simp
 omega
theorem iB_bool (N y g : Nat) (a : Int) : iB N y g a = true ↔ (0 <= a /\ a < y) \/ ((N : Int) <= a /\ a < (N : Int) + g) := by
 unfold iB hB
 simp
theorem Ck.ld_cp (hl : s.ws.length = k.N + k.O) (hy : k.y <= k.N) (hg : s.g <= k.O) {a : Int} (a0 : 0 <= a) (a1 : a + 1 + pf (k.ld s a) <= k.y) (hc : cpB k.N k.O k.y s.g s.ws a = true) (b : Int) :
  k.ld (k.cp s a) b = if (k.N : Int) + s.g <= b /\ b < (k.N : Int) + s.g + (1 + pf (k.ld s a)) then k.ld s (a + (b - (k.N + s.g))) else k.ld s b := by
 obtain ⟨h1, h2, h3⟩ := cpB_yes hc
 have hp := pf_bd (k.ld s a)
 have h3 : 1 + pf (k.ld s a) <= (k.O : Int) - s.g := h3
 rw [Ck.cp_eq hc]
 obtain ⟨n, hn⟩ : ∃ n, n = (pf (k.ld s a)).toNat := ⟨_, rfl⟩
 rw [<- hn]
 have sg : ∀ i : Nat, (splice s.ws (k.N + s.g) ((s.ws.drop a.toNat).take (1 + n))).getD i 0 = if k.N + s.g <= i /\ i < k.N + s.g + (1 + n) then s.ws.getD (a.toNat + i - (k.N + s.g)) 0 else s.ws.getD i 0 := fun i => splice_get s.ws (k.N + s.g) a.toNat (1 + n) i (by omega) (by omega)
 by_cases hb : (k.N : Int) + s.g <= b /\ b < (k.N : Int) + s.g + (1 + pf (k.ld s a))
 ·rw [if_pos hb]
  have i1 : iB k.N k.y (s.g + (1 + n)) b = true := (iB_bool _ _ _ _).2 (Or.inr ⟨by omega, by omega⟩)
  have i2 : iB k.N k.y s.g (a + (b - (k.N + s.g))) = true := (iB_bool _ _ _ _).2 (Or.inl ⟨by omega, by omega⟩)
  show Proofs.YtnalfnlmaallmaaGreat.ld k.N k.y (s.g + (1 + n)) (splice s.ws (k.N + s.g) ((s.ws.drop a.toNat).take (1 + n))) b = Proofs.YtnalfnlmaallmaaGreat.ld k.N k.y s.g s.ws (a + (b - (k.N + s.g)))
  rw [ld_in i1, ld_in i2, sg, if_pos (by omega)]
  congr 1
  omega
 ·rw [if_neg hb]
  show Proofs.YtnalfnlmaallmaaGreat.ld k.N k.y (s.g + (1 + n)) (splice s.ws (k.N + s.g) ((s.ws.drop a.toNat).take (1 + n))) b = Proofs.YtnalfnlmaallmaaGreat.ld k.N k.y s.g s.ws b
  by_cases hi : iB k.N k.y s.g b = true
  ·have i1 : iB k.N k.y (s.g + (1 + n)) b = true := (iB_bool _ _ _ _).2 (by rcases (iB_bool _ _ _ _).1 hi with h | h <;> omega)
   have hb2 := iB_bd (O := k.O) hi hy hg
   rw [ld_in i1, ld_in hi, sg, if_neg (by omega)]
  ·have i1 : ¬ iB k.N k.y (s.g + (1 + n)) b = true := fun c => hi ((iB_bool _ _ _ _).2 (by rcases (iB_bool _ _ _ _).1 c with h | h <;> omega))
   unfold Proofs.YtnalfnlmaallmaaGreat.ld
   rw [if_neg hi, if_neg i1]
/-! ### one of the young things fewer -/
theorem filter_upf (T : List Int) (f : Int -> Int) (a v : Int) (hv : v ≠ -1) : T.filter (fun b => upf f a v b == -1) = (T.filter (fun b => f b == -1)).filter (fun b => !(b == a)) := by
 rw [List.filter_filter]
 congr 1
 funext b
 unfold upf
 by_cases e : b = a
 ·simp [e, hv]
 ·simp [e]
theorem sum_less (g : Int -> Nat) : ∀ (l : List Int) (a : Int), l.Nodup -> a ∈ l -> ((l.filter (fun b => !(b == a))).map g).sum + g a = (l.map g).sum
 | [], a, _, h => by simp at h
 | b :: l, a, hn, h => by
  rw [List.nodup_cons] at hn
  by_cases e : b = a
  ·subst e
   have e1 : l.filter (fun c => !(c == b)) = l := List.filter_eq_self.2 (fun c hc => by
    have : c ≠ b := fun e => hn.1 (e ▸ hc)
    simp [this])
   rw [List.filter_cons_of_neg (by simp), e1]
   simp
   omega
  ·have hm : a ∈ l := by
    rcases List.mem_cons.1 h with h | h
    ·exact absurd h.symm e
    ·exact h
   have ih := sum_less g l a hn.2 hm
   rw [List.filter_cons_of_pos (by simp [e])]
   simp
   omega
theorem sum_ones : ∀ l : List Int, (l.map (fun _ => 1)).sum = l.length
 | [] => rfl
 | _ :: l => by simp [sum_ones l]; omega
theorem len_less (l : List Int) (a : Int) (hn : l.Nodup) (h : a ∈ l) : (l.filter (fun b => !(b == a))).length + 1 = l.length := by
 have := sum_less (fun _ => 1) l a hn h
 rwa [sum_ones, sum_ones] at this
theorem CI.cpB (h : CI k s) {a : Int} (ha : a ∈ k.T) (hf : s.f a = -1) : cpB k.N k.O k.y s.g s.ws a = true := by
 obtain ⟨h1, h2, h3⟩ := h.th a ha
 have h4 := pf_bd (k.ld s a)
 have hm : a ∈ k.T.filter (fun a => s.f a == -1) := List.mem_filter.2 ⟨ha, by simp [hf]⟩
 have hs := sum_less (fun a => 1 + (pf (k.ld s a)).toNat) _ a (h.nd.filter _) hm
 have hr := h.room
 have hg := h.hg
 unfold Ck.sz at hr
 have e : hB 0 (k.y : Int) a = true := by simp [hB]; omega
 unfold Proofs.YtnalfnlmaallmaaGreat.cpB endA
 rw [if_pos e]
 refine decide_eq_true ⟨h2, ?_, ?_⟩
 ·show 1 + pf (k.ld s a) <= (k.y : Int) - a
  omega
 ·show 1 + pf (k.ld s a) <= (k.O : Int) - s.g
  omega
theorem CI.st (h : CI k s) {a : Int} (ha : (k.N : Int) <= a) (x : Int) : CI k (k.st s a x) := by
 have hl : ∀ b ∈ k.T, k.ld (k.st s a x) b = k.ld s b := fun b hb => by
  have := h.at_y hb
  have := h.hy
  rw [Ck.ld_st h.len h.hy h.hg, if_neg (by omega)]
 refine ⟨h.hN, h.hN', h.hO, h.hy, h.hg, ?_, fun b hb => by rw [hl b hb]; exact h.th b hb, h.nd, ?_, h.nx0, h.nx1, h.wk0, h.ep0, h.tl⟩
 ·unfold Ck.st
  dsimp only
  split
  ·rw [List.length_set]; exact h.len
  ·exact h.len
 ·have e : k.sz (k.st s a x) = k.sz s := by
   unfold Ck.sz
   congr 1
   refine List.map_congr_left (fun b hb => ?_)
   rw [hl b (List.mem_filter.1 hb).1]
  rw [e]
  exact h.room
theorem CI.cp (h : CI k s) {a : Int} (ha : a ∈ k.T) (hf : s.f a = -1) : CI k (k.cp s a) /\ s.g < (k.cp s a).g := by
 have hc := h.cpB ha hf
 obtain ⟨h1, h2, h3⟩ := h.th a ha
 have h4 := pf_bd (k.ld s a)
 have hm : a ∈ k.T.filter (fun a => s.f a == -1) := List.mem_filter.2 ⟨ha, by simp [hf]⟩
 have hs := sum_less (fun a => 1 + (pf (k.ld s a)).toNat) _ a (h.nd.filter _) hm
 have hr := h.room
 have hg := h.hg
 have hl : ∀ b ∈ k.T, k.ld (k.cp s a) b = k.ld s b := fun b hb => by
  have := h.at_y hb
  have := h.hy
  rw [Ck.ld_cp h.len h.hy h.hg h1 h3 hc, if_neg (by omega)]
 have ef : k.T.filter (fun b => (k.cp s a).f b == -1) = (k.T.filter (fun b => s.f b == -1)).filter (fun b => !(b == a)) := by
  rw [Ck.cp_eq hc]
  exact filter_upf _ _ _ _ (by omega)
 have eg : (k.cp s a).g = s.g + (1 + (pf (k.ld s a)).toNat) := by rw [Ck.cp_eq hc]
 have es : k.sz (k.cp s a) + (1 + (pf (k.ld s a)).toNat) = k.sz s := by
  unfold Ck.sz
  rw [ef, <- hs]
  congr 2
  refine List.map_congr_left (fun b hb => ?_)
  rw [hl b (List.mem_filter.1 (List.mem_filter.1 hb).1).1]
 refine ⟨⟨h.hN, h.hN', h.hO, h.hy, by rw [eg]; omega, ?_, fun b hb => by rw [hl b hb]; exact h.th b hb, h.nd, by rw [eg]; omega, h.nx0, h.nx1, h.wk0, h.ep0, h.tl⟩, ?_⟩
 ·rw [Ck.cp_eq hc]
  have := h.len
  have h7 := (cpB_yes hc).2.2
  have h7 : 1 + pf (k.ld s a) <= (k.O : Int) - s.g := h7
  show (splice s.ws (k.N + s.g) ((s.ws.drop a.toNat).take (1 + (pf (k.ld s a)).toNat))).length = k.N + k.O
  rw [splice_len _ _ _ (by simp; omega)]
  exact h.len
 ·rw [eg]
  omega
structure Cq (k : Ck) (s t : Cs) : Prop where
  nx : t.nx = s.nx
  wk : t.wk = s.wk
  ep : t.ep = s.ep
  rs : t.rs = s.rs
  g : s.g <= t.g
theorem Cq.refl (k : Ck) (s : Cs) : Cq k s s := ⟨rfl, rfl, rfl, rfl, Nat.le_refl _⟩
theorem Cq.trans {a b c : Cs} (h : Cq k a b) (j : Cq k b c) : Cq k a c := ⟨j.nx.trans h.nx, j.wk.trans h.wk, j.ep.trans h.ep, j.rs.trans h.rs, Nat.le_trans h.g j.g⟩
theorem Ck.ls_yes {x : Int} (h : k.ls s x = true) : aB x = true /\ aV x ∈ k.T /\ s.f (aV x) = -1 := by
 unfold Ck.ls Ck.yg at h
 simp at h
 exact ⟨h.1.1, h.1.2, h.2⟩
theorem CI.br (h : CI k s) (x : Int) : CI k (k.br s x).2 /\ Cq k s (k.br s x).2 /\ (k.ls s x = true -> s.g < (k.br s x).2.g) := by
 unfold Ck.br
 by_cases c : k.ls s x = true
 ·obtain ⟨c1, c2, c3⟩ := Ck.ls_yes c
  obtain ⟨h1, h2⟩ := h.cp c2 c3
  rw [if_pos c]
  exact ⟨h1, ⟨rfl, rfl, rfl, rfl, by show s.g <= (k.cp s (aV x)).g; omega⟩, fun _ => h2⟩
 ·rw [if_neg c]
  exact ⟨h, Cq.refl _ _, fun e => absurd e c⟩
theorem CI.kf (h : CI k s) {a : Int} (ha : (k.N : Int) <= a) : CI k (k.kf s a) /\ Cq k s (k.kf s a) := by
 obtain ⟨h1, h2, _⟩ := h.br (k.ld s a)
 exact ⟨h1.st ha _, ⟨h2.nx, h2.wk, h2.ep, h2.rs, h2.g⟩⟩
theorem CI.kfs (h : CI k s) {a : Int} (ha : (k.N : Int) <= a) : ∀ n, CI k (k.kfs s a n) /\ Cq k s (k.kfs s a n)
 | 0 => ⟨h, Cq.refl _ _⟩
 | n + 1 => by
  obtain ⟨h1, h2⟩ := CI.kfs h ha n
  obtain ⟨h3, h4⟩ := h1.kf (a := a + 1 + n) (by omega)
  exact ⟨h3, h2.trans h4⟩
theorem CI.addw (h : CI k s) {a : Int} (ha : (k.N : Int) <= a) (ha' : a <= 2000) : CI k { s with wk := s.wk ++ [a] } :=
 ⟨h.hN, h.hN', h.hO, h.hy, h.hg, h.len, h.th, h.nd, h.room, h.nx0, h.nx1, fun b hb => by
  rcases List.mem_append.1 hb with hb | hb
  ·exact h.wk0 b hb
  ·simp at hb; subst hb; exact ⟨ha, ha'⟩, h.ep0, h.tl⟩
theorem CI.adde (h : CI k s) {a : Int} (ha : (k.N : Int) <= a) (ha' : a <= 2000) : CI k { s with ep := s.ep ++ [a] } :=
 ⟨h.hN, h.hN', h.hO, h.hy, h.hg, h.len, h.th, h.nd, h.room, h.nx0, h.nx1, h.wk0, fun b hb => by
  rcases List.mem_append.1 hb with hb | hb
  ·exact h.ep0 b hb
  ·simp at hb; subst hb; exact ⟨ha, ha'⟩, h.tl⟩
structure Cl (k : Ck) (s t : Cs) : Prop where
  nx : t.nx = s.nx
  wk : t.wk.length <= s.wk.length + 1
  ep : t.ep.length <= s.ep.length + 1
  rs : t.rs = s.rs
  g : s.g <= t.g
theorem Cl.of {t : Cs} (h : Cq k s t) : Cl k s t := ⟨h.nx, by rw [h.wk]; omega, by rw [h.ep]; omega, h.rs, h.g⟩
theorem CI.lk (h : CI k s) {a : Int} (ha : (k.N : Int) <= a) (ha' : a <= 2000) : CI k (k.lk s a) /\ Cl k s (k.lk s a) := by
 unfold Ck.lk
 split
 ·obtain ⟨h1, h2⟩ := h.kfs ha (pf (k.ld s a)).toNat
  exact ⟨h1, Cl.of h2⟩
 ·split
  ·obtain ⟨h1, h2⟩ := (h.addw ha ha').kf (a := a + 2) (by omega)
   exact ⟨h1, ⟨h2.nx, by rw [h2.wk]; simp, by rw [h2.ep]; simp, h2.rs, h2.g⟩⟩
  ·split
   ·exact ⟨h.adde ha ha', ⟨rfl, by simp, by simp, rfl, Nat.le_refl _⟩⟩
   ·exact ⟨h, Cl.of (Cq.refl _ _)⟩
theorem CI.lb1 (h : CI k s) (hB0 : hB k.N s.g s.nx = true) : CI k { k.lk s s.nx with nx := s.nx + (1 + pf (k.ld s s.nx)) } /\ k.mu { k.lk s s.nx with nx := s.nx + (1 + pf (k.ld s s.nx)) } <= k.mu s /\ s.nx < (k.N : Int) + k.O := by
 have hb := hB_yes hB0
 have hg := h.hg
 have h4 := pf_bd (k.ld s s.nx)
 have n1 := h.hO
 have n2 := h.hN'
 obtain ⟨h1, h2⟩ := h.lk (a := s.nx) h.nx0 (by omega)
 refine ⟨⟨h1.hN, h1.hN', h1.hO, h1.hy, h1.hg, h1.len, h1.th, h1.nd, h1.room, ?_, ?_, h1.wk0, h1.ep0, h1.tl⟩, ?_, by omega⟩
 ·show (k.N : Int) <= s.nx + (1 + pf (k.ld s s.nx))
  omega
 ·show s.nx + (1 + pf (k.ld s s.nx)) <= (k.N : Int) + k.O + 13
  omega
 ·have h5 := h2.g
  have h6 := h2.ep
  unfold Ck.mu
  show ((k.N : Int) + k.O + 13 - (s.nx + (1 + pf (k.ld s s.nx)))).toNat + (k.lk s s.nx).ep.length + (k.O - (k.lk s s.nx).g) <= _
  omega
theorem CB.lb1 (h : CI k s) (hB0 : hB k.N s.g s.nx = true) (hb : CB k s) : CB k { k.lk s s.nx with nx := s.nx + (1 + pf (k.ld s s.nx)) } := by
 have hb2 := hB_yes hB0
 have hg := h.hg
 have h4 := pf_bd (k.ld s s.nx)
 have n1 := h.hO
 have n2 := h.hN'
 obtain ⟨h1, h2⟩ := h.lk (a := s.nx) h.nx0 (by omega)
 have e1 := hb.wk
 have e2 := hb.ep
 have e3 := h2.wk
 have e4 := h2.ep
 constructor
 ·show (k.lk s s.nx).wk.length + ((k.N : Int) + k.O + 13 - (s.nx + (1 + pf (k.ld s s.nx)))).toNat <= 4000
  omega
 ·show (k.lk s s.nx).ep.length + ((k.N : Int) + k.O + 13 - (s.nx + (1 + pf (k.ld s s.nx)))).toNat <= 4000
  omega
theorem CI.lb (h : CI k s) (hb : CB k s) : ∀ n, CI k (k.lb n s) /\ CB k (k.lb n s) /\ k.mu (k.lb n s) <= k.mu s := by
 intro n
 induction n generalizing s with
 | zero => exact ⟨h, hb, Nat.le_refl _⟩
 | succ n ih =>
  unfold Ck.lb
  by_cases c : hB k.N s.g s.nx = true
  ·rw [if_pos c]
   obtain ⟨h1, h2, _⟩ := h.lb1 c
   obtain ⟨i1, i2, i3⟩ := ih h1 (CB.lb1 h c hb)
   exact ⟨i1, i2, Nat.le_trans i3 h2⟩
  ·rw [if_neg c]
   exact ⟨h, hb, Nat.le_refl _⟩
theorem CI.kv1 {t : List Int × Cs} (h : CI k t.2) {a : Int} (ha : (k.N : Int) <= a) : CI k (k.kv1 t a).2 /\ Cq k t.2 (k.kv1 t a).2 /\ (k.kv1 t a).1.length <= t.1.length + 1 /\ ∀ b ∈ (k.kv1 t a).1, b ∈ t.1 \/ b = a := by
 unfold Ck.kv1
 split
 ·exact ⟨h, Cq.refl _ _, by simp, fun b hb => by simpa using hb⟩
 ·obtain ⟨h1, h2⟩ := h.kf (a := a + 1) (by omega)
  obtain ⟨h3, h4⟩ := h1.kf (a := a + 2) (by omega)
  exact ⟨h3, h2.trans h4, by simp, fun b hb => Or.inl hb⟩
theorem CI.kvf (h : CI k s) : ∀ l : List Int, (∀ a ∈ l, (k.N : Int) <= a) -> CI k (k.kvf s l).2 /\ Cq k s (k.kvf s l).2 /\ (k.kvf s l).1.length <= l.length /\ ∀ b ∈ (k.kvf s l).1, b ∈ l := by
 have key : ∀ (l : List Int) (t : List Int × Cs), CI k t.2 -> (∀ a ∈ l, (k.N : Int) <= a) -> CI k (l.foldl k.kv1 t).2 /\ Cq k t.2 (l.foldl k.kv1 t).2 /\ (l.foldl k.kv1 t).1.length <= t.1.length + l.length /\ ∀ b ∈ (l.foldl k.kv1 t).1, b ∈ t.1 \/ b ∈ l := by
  intro l
  induction l with
  | nil => intro t ht _; exact ⟨ht, Cq.refl _ _, by simp, fun b hb => Or.inl hb⟩
  | cons a l ih =>
   intro t ht hl
   obtain ⟨h1, h2, h3, h4⟩ := CI.kv1 ht (hl a (by simp))
   obtain ⟨i1, i2, i3, i4⟩ := ih (k.kv1 t a) h1 (fun b hb => hl b (List.mem_cons_of_mem _ hb))
   refine ⟨i1, h2.trans i2, by simp only [List.foldl_cons, List.length_cons]; omega, fun b hb => ?_⟩
   rcases i4 b hb with hb | hb
   ·rcases h4 b hb with hb | hb
    ·exact Or.inl hb
    ·exact Or.inr (by simp [hb])
   ·exact Or.inr (List.mem_cons_of_mem _ hb)
 intro l hl
 obtain ⟨h1, h2, h3, h4⟩ := key l ([], s) h hl
 exact ⟨h1, h2, by show (l.foldl k.kv1 ([], s)).1.length <= l.length; simpa using h3, fun b hb => by simpa using h4 b hb⟩
theorem CI.kv (h : CI k s) (hb : CB k s) : CI k (k.kv s).2 /\ CB k (k.kv s).2 /\ k.mu (k.kv s).2 <= k.mu s /\ ((k.kv s).1 = true -> k.mu (k.kv s).2 < k.mu s) := by
 obtain ⟨h1, h2, h3, h4⟩ := h.kvf s.ep (fun a ha => (h.ep0 a ha).1)
 have e1 := h2.nx
 have e2 := h2.g
 have b1 := hb.wk
 have b2 := hb.ep
 have e3 := h2.wk
 refine ⟨⟨h1.hN, h1.hN', h1.hO, h1.hy, h1.hg, h1.len, h1.th, h1.nd, h1.room, h1.nx0, h1.nx1, h1.wk0, fun a ha => h.ep0 a (h4 a ha), h1.tl⟩, ⟨?_, ?_⟩, ?_, fun hk => ?_⟩
 ·show (k.kvf s s.ep).2.wk.length + (k.N + k.O + 13 - (k.kvf s s.ep).2.nx).toNat <= 4000
  rw [e1, e3]
  exact b1
 ·show (k.kvf s s.ep).1.length + (k.N + k.O + 13 - (k.kvf s s.ep).2.nx).toNat <= 4000
  rw [e1]
  omega
 ·unfold Ck.mu
  show (k.N + k.O + 13 - (k.kvf s s.ep).2.nx).toNat + (k.kvf s s.ep).1.length + (k.O - (k.kvf s s.ep).2.g) <= _
  rw [e1]
  omega
 ·have hk : (k.kvf s s.ep).1.length < s.ep.length := by simpa [Ck.kv] using hk
  unfold Ck.mu
  show (k.N + k.O + 13 - (k.kvf s s.ep).2.nx).toNat + (k.kvf s s.ep).1.length + (k.O - (k.kvf s s.ep).2.g) < _
  rw [e1]
  omega
theorem Cq.mu {t : Cs} (h : Cq k s t) : k.mu t <= k.mu s := by
 unfold Ck.mu
 rw [h.nx, h.ep]
 have := h.g
 omega
theorem Cq.cb {t : Cs} (h : Cq k s t) (hb : CB k s) : CB k t := ⟨by rw [h.wk, h.nx]; exact hb.wk, by rw [h.ep, h.nx]; exact hb.ep⟩
theorem CI.wkQ {s : Cs × List En} (h : CI k s.1) : ∀ n, CI k (wkQ k.al k.br s n).1.1 /\ Cq k s.1 (wkQ k.al k.br s n).1.1 /\ (wkQ k.al k.br s n).1.2.length = s.2.length /\ ((wkQ k.al k.br s n).2 = true -> s.1.g < (wkQ k.al k.br s n).1.1.g)
 | 0 => ⟨h, Cq.refl _ _, rfl, fun e => by simp [Proofs.YtnalfnlmaallmaaGreat.wkQ] at e⟩
 | n + 1 => by
  obtain ⟨h1, h2, h3, h4⟩ := CI.wkQ h n
  have e : Proofs.YtnalfnlmaallmaaGreat.wkQ k.al k.br s (n + 1) = wkP k.al k.br (Proofs.YtnalfnlmaallmaaGreat.wkQ k.al k.br s n) n := by simp [Proofs.YtnalfnlmaallmaaGreat.wkQ, List.range_succ]
  rw [e]
  generalize Proofs.YtnalfnlmaallmaaGreat.wkQ k.al k.br s n = t at h1 h2 h3 h4 ⊢
  unfold wkP
  split
  ·exact ⟨h1, h2, h3, h4⟩
  ·rename_i c
   obtain ⟨i1, i2, i3⟩ := h1.br (t.1.2.getD n (0, 0)).2
   have hl : k.ls t.1.1 (t.1.2.getD n (0, 0)).2 = true := by
    unfold Ck.al at c
    simp at c
    exact c.1
   refine ⟨i1, h2.trans i2, by simp [h3], fun _ => ?_⟩
   exact Nat.lt_of_le_of_lt h2.g (i3 hl)
theorem CI.wa {s : Cs × List En} (h : CI k s.1) (hb : CB k s.1) : CI k (k.wa s).1.1 /\ CB k (k.wa s).1.1 /\ (k.wa s).1.2.length = s.2.length /\ k.mu (k.wa s).1.1 <= k.mu s.1 /\ ((k.wa s).2 = true -> k.mu (k.wa s).1.1 < k.mu s.1) := by
 obtain ⟨h1, h2, h3, h4⟩ := h.wkQ s.2.length
 refine ⟨h1, h2.cb hb, h3, h2.mu, fun e => ?_⟩
 have h5 := h4 e
 have h6 := h1.hg
 show k.mu (Proofs.YtnalfnlmaallmaaGreat.wkQ k.al k.br s s.2.length).1.1 < _
 unfold Ck.mu
 rw [h2.nx, h2.ep]
 omega
theorem CI.kr (h : CI k s) : ∀ n, CI k (k.kr s n) /\ (k.kr s n).nx = s.nx /\ (k.kr s n).wk = s.wk /\ (k.kr s n).ep = s.ep /\ s.g <= (k.kr s n).g /\ (k.kr s n).rs.length = s.rs.length
 | 0 => ⟨h, rfl, rfl, rfl, Nat.le_refl _, rfl⟩
 | n + 1 => by
  obtain ⟨h1, h2, h3, h4, h5, h6⟩ := CI.kr h n
  obtain ⟨i1, i2, _⟩ := h1.br ((k.kr s n).rs.getD n 0)
  refine ⟨⟨i1.hN, i1.hN', i1.hO, i1.hy, i1.hg, i1.len, i1.th, i1.nd, i1.room, i1.nx0, i1.nx1, i1.wk0, i1.ep0, i1.tl⟩, i2.nx.trans h2, i2.wk.trans h3, i2.ep.trans h4, Nat.le_trans h5 i2.g, ?_⟩
  show ((k.br (k.kr s n) ((k.kr s n).rs.getD n 0)).2.rs.set n _).length = _
  rw [List.length_set, i2.rs, h6]
theorem CI.mw1 (h : CI k s) {a : Int} (ha : (k.N : Int) <= a) : CI k (k.mw1 s a) /\ Cq k s (k.mw1 s a) := by
 unfold Ck.mw1
 split
 ·exact ⟨h.st (by omega) _, ⟨rfl, rfl, rfl, rfl, Nat.le_refl _⟩⟩
 ·exact ⟨h.st (by omega) _, ⟨rfl, rfl, rfl, rfl, Nat.le_refl _⟩⟩
theorem CI.be1 (h : CI k s) {a : Int} (ha : (k.N : Int) <= a) : CI k (k.be1 s a) /\ Cq k s (k.be1 s a) :=
 ⟨(h.st (a := a + 1) (by omega) _).st (by omega) _, ⟨rfl, rfl, rfl, rfl, Nat.le_refl _⟩⟩
theorem CI.fold (f : Cs -> Int -> Cs) (hf : ∀ s a, CI k s -> (k.N : Int) <= a -> CI k (f s a) /\ Cq k s (f s a)) : ∀ (l : List Int) (s : Cs), CI k s -> (∀ a ∈ l, (k.N : Int) <= a) -> CI k (l.foldl f s) /\ Cq k s (l.foldl f s)
 | [], s, h, _ => ⟨h, Cq.refl _ _⟩
 | a :: l, s, h, hl => by
  obtain ⟨h1, h2⟩ := hf s a h (hl a (by simp))
  obtain ⟨i1, i2⟩ := CI.fold f hf l (f s a) h1 (fun b hb => hl b (List.mem_cons_of_mem _ hb))
  exact ⟨i1, h2.trans i2⟩
theorem CI.mw (h : CI k s) {l : List Int} (hl : ∀ a ∈ l, (k.N : Int) <= a) : CI k (k.mw s l) /\ Cq k s (k.mw s l) := CI.fold k.mw1 (fun _ _ h ha => h.mw1 ha) l s h hl
end
end Go.Proofs.YtnalfnlmaallmaaGreat

namespace Go.Proofs.YtnalfnlmaallmaaGreat
set_option maxRecDepth 100000
set_option maxHeartbeats 1000000
open Go.RowKit W Kp Stl
def atL (q : List En) (g : Int) : List Int := (q.filter (fun e => e.1 == g)).map (·.2)
theorem atL_yes (q : List En) (g : Int) (j : Nat) (h : j < q.length) (e : (q.getD j (0, 0)).1 = g) : atL (q.take (j + 1)) g = atL (q.take j) g ++ [(q.getD j (0, 0)).2] := by
 unfold atL
 rw [take_snoc q j h (0, 0), List.filter_append, List.map_append, List.filter_cons, e]
 simp
theorem atL_no (q : List En) (g : Int) (j : Nat) (h : j < q.length) (e : ¬ (q.getD j (0, 0)).1 = g) : atL (q.take (j + 1)) g = atL (q.take j) g := by
 unfold atL
 rw [take_snoc q j h (0, 0), List.filter_append, List.map_append, List.filter_cons]
 rw [if_neg (by simpa using e)]
 simp
theorem atL_len (q : List En) (g : Int) : (atL q g).length <= q.length := by
 unfold atL
 rw [List.length_map]
 exact List.length_filter_le _ _
theorem atS_any (w : World) (p : Nat) (v0 : Value) (a1 : Option Addr) (k1 : Nat) (q : List En) (g : Int) (h : w.heap[p]? = some (.cells #[v0, .slice a1 q.length k1] 153 (0, 0))) (hp : Lp w a1 q) (hm : q.length <= 90000) :
  Calls Tryz.prog 256 #[.pointer (some ⟨p, 0, none⟩), .int .i64 g] w fun e w' => ∃ ad cap, e = .returned (.slice ad (atL q g).length cap) /\ w'.ownsRow w.heap.size 2 1 (.slice ad (atL q g).length cap) (atL q g).length ((atL q g).map (Value.int .i64)) /\ Below w.heap.size w w' := by
 obtain ⟨i0, hi, hz0, hz1, hz2⟩ := info_parts info64
 have c1 : w.cell? ⟨p, 1, none⟩ = some (.slice a1 q.length k1) := by simp [World.cell?, h]
 have HP : Hid (Lp w a1 q) := hp
 clear h hp
 go_enter Tryz.func256, Tryz.ntmps256
 go_wp2_with fail
 go_loopw [5, 13] (fun tv iv wr => ∃ (j : Nat) (T : List Int) (at1 : Option Addr) (ct : Nat), j <= q.length /\ iv = .int .i64 j /\ Hid (T = atL (q.take j) g) /\ tv = .slice at1 T.length ct /\ wr.ownsRow w.heap.size 2 1 (.slice at1 T.length ct) T.length (T.map (Value.int .i64)) /\ Below w.heap.size w wr) (fun _ iv _ => q.length - (intOf iv).toNat)
 case atStart => exact ⟨0, [], none, 0, Nat.zero_le _, rfl, rfl, rfl, World.ownsRow_nil _ _ _ _, Below.refl _ _⟩
 case round =>
  obtain ⟨j, T, at1, ct, hj, rfl, HT, rfl, hT, hb⟩ := hrel
  have hTl : T.length <= 90000 := by
   have := atL_len (q.take j) g
   rw [HT.out]
   simp at this
   omega
  by_cases hlt : j < q.length
  ·obtain ⟨b0, o0, e0, hb0, hc⟩ := HP.out.below hb (by omega)
   obtain ⟨x1, x2⟩ := hc j hlt
   clear hc
   subst e0
   have hs := hb.size
   by_cases cq : (q.getD j (0, 0)).1 = g
   ·have HT' : Hid (T ++ [(q.getD j (0, 0)).2] = atL (q.take (j + 1)) g) := by show _ = _; rw [atL_yes q g j hlt cq, HT.out]
    rw [cq] at x1
    generalize (q.getD j (0, 0)).2 = z at x2 HT'
    clear cq
    have hT1 := row_alloc hT (.cells #[.int .i64 g, .int .i64 z] 106)
    have hb1 := hb.alloc hs (.cells #[.int .i64 g, .int .i64 z] 106)
    go_wp2_with (at_builtin; refine wpList_append_own_at _ rfl _ _ 42 rfl w.heap.size 2 i0 (.int .i64 0) 1 8 Tryz.underlying42 hi hz0 hz1 hz2 rfl (by decide) (.slice at1 T.length ct) T.length (T.map (Value.int .i64)) rfl (row_alloc hT1 _) ⟨wr.heap.size + 1, 0, none⟩ 1 1 [.int .i64 z] rfl rfl ?_ ?_ ?_ ?_ ?_ ?_; (intro j u hj; match j, hj with | 0, hj => (simp at hj; subst hj; simp [Addr.add])); (intro u hu; simp at hu; subst hu; rfl); (unfold maxLen; omega); omega; (simp; omega); intro v' w4 hown4 hgrow4 _ hloc4; obtain ⟨b4, cap4, ev4⟩ := row_shape hown4 (Nat.succ_pos _); subst ev4)
    have hT4 : w4.ownsRow w.heap.size 2 1 (.slice (some ⟨b4, 0, none⟩) (T ++ [z]).length cap4) (T ++ [z]).length ((T ++ [z]).map (Value.int .i64)) := by simpa using hown4
    have hb4 := (hb1.alloc hb1.size _).grown hgrow4 (by simp; omega) (fun k e => (row_lt hT k e.symm).1)
    clear hown4 hgrow4 hloc4 hT hT1 hb hb1 x1 x2
    go_wp2_with fail
    go_roundw
    case rel => exact ⟨j + 1, T ++ [z], some ⟨b4, 0, none⟩, cap4, by omega, by go_num, HT', by simp, hT4, hb4⟩
    case measure => simp [intOf]; omega
   ·have HT' : Hid (T = atL (q.take (j + 1)) g) := by show _ = _; rw [atL_no q g j hlt cq, HT.out]
    generalize (q.getD j (0, 0)).1 = x at x1 cq
    generalize (q.getD j (0, 0)).2 = z at x2
    have hT1 := row_alloc hT (.cells #[.int .i64 x, .int .i64 z] 106)
    have hb1 := hb.alloc hs (.cells #[.int .i64 x, .int .i64 z] 106)
    clear hT hb
    go_wp2_with fail
    go_roundw
    case rel => exact ⟨j + 1, T, at1, ct, by omega, by go_num, HT', rfl, hT1, hb1⟩
    case measure => simp [intOf]; omega
  ·obtain rfl : j = q.length := by omega
   rw [List.take_length] at HT
   go_wp2_with fail
   go_ret
   rw [<- HT.out]
   exact ⟨at1, ct, rfl, hT, hb⟩
end Go.Proofs.YtnalfnlmaallmaaGreat

namespace Go.Proofs.YtnalfnlmaallmaaGreat
open Go.RowKit W Kp Stl
abbrev Vnd := Int × Option Addr × Nat × List (Int × Int)
def nv (m : List Vnd) : List Value := m.flatMap fun x => [.int .i64 x.1, .slice x.2.1 x.2.2.2.length x.2.2.1]
def nds (m : List Vnd) : List (Int × List (Int × Int)) := m.map fun x => (x.1, x.2.2.2)
theorem nv_append (a b : List Vnd) : nv (a ++ b) = nv a ++ nv b := by simp [nv]
theorem nv_get : ∀ (l : List Vnd) (i : Nat) (x : Vnd), l[i]? = some x -> (nv l)[i * 2]? = some (.int .i64 x.1) /\ (nv l)[i * 2 + 1]? = some (.slice x.2.1 x.2.2.2.length x.2.2.1)
 | [], i, x, h => by simp at h
 | e :: r, 0, x, h => by
  simp at h
  subst h
  simp [nv]
 | e :: r, i + 1, x, h => by
  have h2 := nv_get r i x (by simpa using h)
  have e1 : (nv (e :: r)) = .int .i64 e.1 :: .slice e.2.1 e.2.2.2.length e.2.2.1 :: nv r := by simp [nv]
  rw [e1, show (i + 1) * 2 = i * 2 + 1 + 1 by omega]
  simpa using h2
theorem nv_set : ∀ (l : List Vnd) (i : Nat) (x : Vnd) (ad : Option Addr) (c : Nat) (vs : List (Int × Int)), l[i]? = some x -> nv (l.set i (x.1, ad, c, vs)) = (nv l).set (i * 2 + 1) (.slice ad vs.length c)
 | [], _, _, _, _, _, _ => rfl
 | e :: l, 0, x, ad, c, vs, h => by
  simp at h
  subst h
  simp [nv]
 | e :: l, i + 1, x, ad, c, vs, h => by
  have ih := nv_set l i x ad c vs (by simpa using h)
  have e1 : (nv (e :: l)) = .int .i64 e.1 :: .slice e.2.1 e.2.2.2.length e.2.2.1 :: nv l := by simp [nv]
  have e2 : (nv (e :: l.set i (x.1, ad, c, vs))) = .int .i64 e.1 :: .slice e.2.1 e.2.2.2.length e.2.2.1 :: nv (l.set i (x.1, ad, c, vs)) := by simp [nv]
  rw [List.set_cons_succ, e2, e1, ih, show (i + 1) * 2 + 1 = i * 2 + 1 + 1 + 1 by omega]
  simp
theorem row_put {w : World} {base size n g cap : Nat} {e : TypeId} {xs : List Value} (h : w.ownsRow base e size (.slice (some ⟨g, 0, none⟩) n cap) n xs) (i : Nat) (u : Value) : (w.setCell ⟨g, i, none⟩ u).ownsRow base e size (.slice (some ⟨g, 0, none⟩) n cap) n (xs.set i u) := by
 refine ⟨by rw [List.length_set]; exact h.1, ?_⟩
 rcases h.2 with ⟨hv, _⟩ | ⟨g', cap', cur, hv, hb, hg, h1, h2, h3, h4⟩
 ·simp at hv
 ·simp at hv
  obtain ⟨rfl, rfl⟩ := hv
  refine Or.inr ⟨g, cap, cur.setIfInBounds i u, rfl, hb, ?_, h1, h2, by rw [Array.size_setIfInBounds]; exact h3, ?_⟩
  ·simp only [World.setCell, Array.getElem?_modify, if_true, hg, Option.map_some]
   rfl
  ·rw [Array.toList_setIfInBounds, List.take_set, h4]
def Lv (w : World) (ad : Option Addr) (l : List (Int × Int)) : Prop := Lp w ad l /\ (0 < l.length -> ∃ b o cs, ad = some ⟨b, o, none⟩ /\ w.heap[b]? = some (.cells cs 100 (0, 0)))
structure Kf (B : Nat) (w w' : World) : Prop where
  os : w'.os = w.os
  tape : w'.tape = w.tape
  output : w'.output = w.output
  size : w.heap.size <= w'.heap.size
  low : ∀ k : Nat, k < w.heap.size -> k < B -> w'.heap[k]? = w.heap[k]?
  oth : ∀ (k : Nat) cs e m, w.heap[k]? = some (Obj.cells cs e m) -> e ≠ 148 -> e ≠ 134 -> w'.heap[k]? = w.heap[k]?
section
variable {B : Nat} {w w' w'' : World}
theorem Kf.refl (B : Nat) (w : World) : Kf B w w := ⟨rfl, rfl, rfl, Nat.le_refl _, fun _ _ _ => rfl, fun _ _ _ _ _ _ _ => rfl⟩
theorem Kf.trans (h : Kf B w w') (k : Kf B w' w'') : Kf B w w'' :=
 ⟨k.os.trans h.os, k.tape.trans h.tape, k.output.trans h.output, Nat.le_trans h.size k.size, fun i hi hb => (k.low i (Nat.lt_of_lt_of_le hi h.size) hb).trans (h.low i hi hb), fun i cs e m hi h1 h2 => (k.oth i cs e m ((h.oth i cs e m hi h1 h2).trans hi) h1 h2).trans (h.oth i cs e m hi h1 h2)⟩
theorem Kf.of (h : Below w.heap.size w w') : Kf B w w' := ⟨h.os, h.tape, h.output, h.size, fun k hk _ => h.block k hk, fun k _ _ _ hi _ _ => h.block k (lt_of_some hi)⟩
theorem Kf.below (h : Kf B w w') (hB : B <= w.heap.size) : Below B w w' := ⟨h.os, h.tape, h.output, h.size, fun k hk => h.low k (by omega) hk⟩
theorem Kf.set {pk o : Nat} {cs : Array Value} {m : Nat × Nat} {e : TypeId} {v : Value} (hp : w.heap[pk]? = some (.cells cs e m)) (he : e = 148 \/ e = 134) (hB : B <= pk) : Kf B w (w.setCell ⟨pk, o, none⟩ v) :=
 ⟨rfl, rfl, rfl, by simp [World.setCell], fun k _ hk => Below.heap_setCell _ _ _ _ (fun c => by have c : k = pk := c; omega), fun k cs2 e2 m2 hk h1 h2 => Below.heap_setCell _ _ _ _ (fun c => by
  have c : k = pk := c
  rw [c, hp] at hk
  simp at hk
  rcases he with he | he
  ·exact h1 (hk.2.1.symm.trans he)
  ·exact h2 (hk.2.1.symm.trans he))⟩
theorem Kf.grown {row : Option Nat} (g : w.grownBy w' row) (hr : ∀ k, row = some k -> B <= k /\ ∀ cs e m, w.heap[k]? = some (.cells cs e m) -> e = 148 \/ e = 134) : Kf B w w' :=
 ⟨g.os, g.tape, g.output, g.size, fun k hk hb => g.block k hk (fun e => by have := (hr k e.symm).1; omega), fun k cs e m hk h1 h2 => g.block k (lt_of_some hk) (fun c => ((hr k c.symm).2 cs e m hk).elim h1 h2)⟩
theorem Lv.kf {ad : Option Addr} {l : List (Int × Int)} (h : Lv w ad l) (k : Kf B w w') : Lv w' ad l := by
 have hk : 0 < l.length -> ∀ b, ad = some b -> w'.heap[b.block]? = w.heap[b.block]? := fun hp b e => by
  obtain ⟨b0, o0, cs, e0, hb⟩ := h.2 hp
  rw [e0] at e
  cases e
  exact k.oth _ _ _ _ hb (by decide) (by decide)
 refine ⟨h.1.keep k.size hk, fun hp => ?_⟩
 obtain ⟨b0, o0, cs, e0, hb⟩ := h.2 hp
 exact ⟨b0, o0, cs, e0, (hk hp _ e0).trans hb⟩
theorem Lv.nil {ad : Option Addr} : Lv w ad [] := ⟨fun h => by simp at h, fun h => by simp at h⟩
theorem Lv.of {base cap : Nat} {ad : Option Addr} {l : List (Int × Int)} (h : w.ownsRow base 100 2 (.slice ad l.length cap) l.length (ev l)) : Lv w ad l := by
 refine ⟨row_pairs h, fun hp => ?_⟩
 obtain ⟨b0, c0, e0⟩ := row_shape h hp
 obtain ⟨cs, hc⟩ := row_type h b0 (by rw [e0]; rfl)
 cases e0
 exact ⟨b0, 0, cs, rfl, hc⟩
end
structure Wq (w : World) (pw p q N O y g : Nat) (ws : List Int) (sd : Nat) (v0 : Value) (a1 : Option Addr) (k1 : Nat) (Q : List En) : Prop where
  c0 : w.cell? ⟨pw, 0, none⟩ = some (.pointer (some ⟨p, 0, none⟩))
  c2 : w.cell? ⟨pw, 2, none⟩ = some (.pointer (some ⟨sd, 0, none⟩))
  ar : At w p q N O y g ws
  hs : w.heap[sd]? = some (.cells #[v0, .slice a1 Q.length k1] 153 (0, 0))
  hp : Lp w a1 Q
  hm : Q.length <= 90000
theorem Wq.low {w0 w : World} {pw p q N O y g : Nat} {ws : List Int} {sd : Nat} {v0 : Value} {a1 : Option Addr} {k1 : Nat} {Q : List En} (h : Wq w0 pw p q N O y g ws sd v0 a1 k1 Q) (hb : Below w0.heap.size w0 w) : Wq w pw p q N O y g ws sd v0 a1 k1 Q :=
 ⟨(hb.cell (p := ⟨pw, 0, none⟩) (World.block_lt_of_cell? w0 _ h.c0)).trans h.c0, (hb.cell (p := ⟨pw, 2, none⟩) (World.block_lt_of_cell? w0 _ h.c2)).trans h.c2, h.ar.below hb (Nat.le_refl _), (hb.block sd (lt_of_some h.hs)).trans h.hs,
  h.hp.keep hb.size (fun hp a e => by
   obtain ⟨b0, o0, e0, hb0, _⟩ := h.hp hp
   rw [e0] at e
   cases e
   exact hb.block _ hb0), h.hm⟩
def nb (ms : List Int) (a : Int) : Int := if ms.contains a = true then (ms.idxOf a : Int) else -1
theorem nb_snoc {ms : List Int} {a : Int} (hn : a ∉ ms) (b : Int) : nb (ms ++ [a]) b = if b = a then (ms.length : Int) else nb ms b := by
 unfold nb
 by_cases e : b = a
 ·subst e
  rw [if_pos rfl, if_pos (by simp), List.idxOf_append, if_neg hn]
  simp
 ·rw [if_neg e]
  by_cases c : b ∈ ms
  ·rw [if_pos (by simp [c]), if_pos (by simpa using c), List.idxOf_append, if_pos c]
  ·rw [if_neg (by simp [c, e]), if_neg (by simpa using c)]
theorem nb_no {ms : List Int} {a : Int} (hn : a ∉ ms) : nb ms a = -1 := by unfold nb; rw [if_neg (by simpa using hn)]
theorem nb_yes {ms : List Int} {a : Int} (h : a ∈ ms) : nb ms a = (ms.idxOf a : Int) := by unfold nb; rw [if_pos (by simpa using h)]
theorem lawI : Maps.Keyed Tryz.prog 3 := Maps.int_keyed Tryz.underlying3
theorem zeroI (w : World) : (zeroValue 3).run Tryz.prog w = .ok (.int .i64 0) w := by kernel_rfl
def Nm (w : World) (mq : Nat) (T ms : List Int) : Prop :=
 ∃ D : DataW Unit, w.ownsMap Tryz.prog 3 (plainElem Tryz.prog 3) mq T.length D /\ (∀ a : Int, Maps.has D (.int .i64 a) = T.contains a) /\ ∀ a ∈ T, D.atKey (.int .i64 a) (.lit (.int .i64 0)) = .lit (.int .i64 (nb ms a))
theorem Nm.same {w w' : World} {mq : Nat} {T ms : List Int} (h : Nm w mq T ms) (e : w'.heap[mq]? = w.heap[mq]?) : Nm w' mq T ms := by
 obtain ⟨D, h1, h2, h3⟩ := h
 exact ⟨D, own_same h1 e, h2, h3⟩
structure Wk (w0 w : World) (pk mq pw : Nat) (T : List Int) (s : Vst) (vn : Value) (m : List Vnd) : Prop where
  blk : w.heap[pk]? = some (.cells #[.pointer (some ⟨pw, 0, none⟩), .map (some mq), vn] 148 (0, 0))
  lo : w0.heap.size <= pk /\ w0.heap.size <= mq
  mp : Nm w mq T s.1
  row : w.ownsRow w0.heap.size 134 2 vn m.length (nv m)
  nd : nds m = s.2
  fl : ∀ x ∈ m, Lv w x.2.1 x.2.2.2
  bel : Below w0.heap.size w0 w
section
variable {w0 w w' : World} {pk mq pw : Nat} {T : List Int} {s : Vst} {vn : Value} {m : List Vnd}
theorem Wk.below (h : Wk w0 w pk mq pw T s vn m) (hb : Below w.heap.size w w') : Wk w0 w' pk mq pw T s vn m := by
 obtain ⟨D, o1, o2, o3⟩ := h.mp
 exact ⟨(hb.block pk (lt_of_some h.blk)).trans h.blk, h.lo, h.mp.same (hb.block mq o1.lt), row_keep h.row (fun k hk => hb.block k (row_lt h.row k hk).2), h.nd, fun x hx => (h.fl x hx).kf (Kf.of (B := 0) hb), h.bel.trans (hb.mono h.bel.size)⟩
theorem Wk.cells (h : Wk w0 w pk mq pw T s vn m) : w.cell? ⟨pk, 0, none⟩ = some (.pointer (some ⟨pw, 0, none⟩)) /\ w.cell? ⟨pk, 1, none⟩ = some (.map (some mq)) /\ w.cell? ⟨pk, 2, none⟩ = some vn /\ pk < w.heap.size :=
 ⟨by simp [World.cell?, h.blk], by simp [World.cell?, h.blk], by simp [World.cell?, h.blk], lt_of_some h.blk⟩
theorem Wk.len (h : Wk w0 w pk mq pw T s vn m) : m.length = s.2.length := by rw [<- h.nd]; simp [nds]
end
end Go.Proofs.YtnalfnlmaallmaaGreat
