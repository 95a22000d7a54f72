/- Joined: Mn4, Mn18, Ms1, Mk3, Wr9. -/
import Derived.Test.YtnalfnlmaallmaaGreatJ09
import Derived.Test.YtnalfnlmaallmaaGreatJ35
import Derived.Test.YtnalfnlmaallmaaGreatJ06
import Derived.Test.YtnalfnlmaallmaaGreatJ23
import Derived.Test.YtnalfnlmaallmaaGreatJ33
import Derived.Test.YtnalfnlmaallmaaGreatJ16
namespace Go.Proofs.YtnalfnlmaallmaaGreat
open Go.RowKit W Kp Stl Apart2
structure C0 where
  g : Nat
  ws : List Int
  G : List Int
def Ck.l0 (k : Ck) (z : C0) (a : Int) : Int := Proofs.YtnalfnlmaallmaaGreat.ld k.N k.y z.g z.ws a
def Ck.or (k : Ck) (z : C0) (s : Cs) (a b : Int) : Prop := (a = b /\ b ∈ z.G) \/ (a ∈ k.T /\ s.f a = b /\ b ≠ -1)
def Ck.ml (k : Ck) (s : Cs) (x0 x : Int) : Prop := x = x0 \/ (k.yg x0 = true /\ s.f (aV x0) ≠ -1 /\ x = ew 3 (s.f (aV x0)))
structure MI (k : Ck) (z : C0) (s : Cs) (H : List Int) : Prop where
  ci : CI k s
  zg : z.g <= s.g
  full : Full2 k.N k.y s.g s.ws k.T (z.G ++ H)
  zh : ∀ b ∈ z.G, b < (k.N : Int) + z.g
  yw : ∀ b, 0 <= b -> b < (k.y : Int) -> k.ld s b = k.l0 z b
  fh : ∀ a ∈ k.T, s.f a ≠ -1 -> s.f a ∈ H
  inj : ∀ a ∈ k.T, ∀ b ∈ k.T, s.f a ≠ -1 -> s.f a = s.f b -> a = b
  sur : ∀ b ∈ H, ∃ a ∈ k.T, s.f a = b
  hlo : ∀ b ∈ H, (k.N : Int) + z.g <= b
  hd : ∀ a b, k.or z s a b -> k.ld s b = k.l0 z a
  fd : ∀ a b, k.or z s a b -> ∀ i, 0 <= i -> i < pf (k.l0 z a) -> k.ml s (k.l0 z (a + 1 + i)) (k.ld s (b + 1 + i))
structure Pg (k : Ck) (s t : Cs) : Prop where
  f : ∀ a, s.f a ≠ -1 -> t.f a = s.f a
  g : s.g <= t.g
  cl : ∀ b, (k.N : Int) <= b -> b < (k.N : Int) + s.g -> k.yg (k.ld s b) = false -> k.yg (k.ld t b) = false
section
variable {k : Ck} {z : C0} {s t u : Cs} {H : List Int}
theorem Pg.refl (k : Ck) (s : Cs) : Pg k s s := ⟨fun _ _ => rfl, Nat.le_refl _, fun _ _ _ h => h⟩
theorem Pg.trans (h : Pg k s t) (j : Pg k t u) : Pg k s u :=
 ⟨fun a ha => (j.f a (by rw [h.f a ha]; exact ha)).trans (h.f a ha), Nat.le_trans h.g j.g, fun b h1 h2 h3 => j.cl b h1 (by have := h.g; omega) (h.cl b h1 h2 h3)⟩
theorem Pg.or (h : Pg k s t) {a b : Int} (ho : k.or z s a b) : k.or z t a b := by
 rcases ho with ho | ⟨h1, h2, h3⟩
 ·exact Or.inl ho
 ·exact Or.inr ⟨h1, (h.f a (by rw [h2]; exact h3)).trans h2, h3⟩
theorem Pg.ml (h : Pg k s t) {x0 x : Int} (ho : k.ml s x0 x) : k.ml t x0 x := by
 rcases ho with ho | ⟨h1, h2, h3⟩
 ·exact Or.inl ho
 ·exact Or.inr ⟨h1, by rw [h.f _ h2]; exact h2, by rw [h.f _ h2]; exact h3⟩
theorem MI.mem (h : MI k z s H) {a b : Int} (ho : k.or z s a b) : b ∈ z.G ++ H := by
 rcases ho with ⟨_, hb⟩ | ⟨h1, h2, h3⟩
 ·exact List.mem_append_left _ hb
 ·exact List.mem_append_right _ (h2 ▸ h.fh a h1 (by rw [h2]; exact h3))
theorem MI.from (h : MI k z s H) {b : Int} (hb : b ∈ z.G ++ H) : ∃ a, k.or z s a b := by
 rcases List.mem_append.1 hb with hb | hb
 ·exact ⟨b, Or.inl ⟨rfl, hb⟩⟩
 ·obtain ⟨a, ha, e⟩ := h.sur b hb
  have := h.hlo b hb
  exact ⟨a, Or.inr ⟨ha, e, by omega⟩⟩
theorem MI.bd (h : MI k z s H) {b : Int} (hb : b ∈ z.G ++ H) : (k.N : Int) <= b /\ b + (1 + pf (k.ld s b)) <= (k.N : Int) + s.g /\ pc (k.ld s b) = 0 := h.full.to.mem b hb
theorem MI.bdH (h : MI k z s H) {b : Int} (hb : b ∈ H) : (k.N : Int) <= b /\ b < (k.N : Int) + s.g := by
 have h1 := h.bd (List.mem_append_right _ hb)
 have := pf_bd (k.ld s b)
 omega
theorem CI.notT (h : CI k s) {a : Int} (ha : (k.N : Int) <= a) : a ∉ k.T := fun c => by
 have h1 := h.at_y c
 have := h.hy
 omega
theorem yg_old (h : CI k s) {n : Int} (h0 : (k.N : Int) <= n) (h1 : n < 1000000) : k.yg (ew 3 n) = false := by
 have e := at_enc 3 n (vc3_in n (by omega) (by omega))
 unfold Ck.yg
 rw [e.1, e.2 rfl]
 simp
 exact h.notT h0
theorem MI.cp (h : MI k z s H) {a : Int} (ha : a ∈ k.T) (hf : s.f a = -1) : MI k z (k.cp s a) (H ++ [((k.N + s.g : Nat) : Int)]) /\ Pg k s (k.cp s a) /\ (k.cp s a).f a = ((k.N + s.g : Nat) : Int) := by
 have ci := h.ci
 have hc := ci.cpB ha hf
 obtain ⟨t1, t2, t3⟩ := ci.th a ha
 have hp := pf_bd (k.ld s a)
 have hz := h.zg
 have hl := Ck.ld_cp ci.len ci.hy ci.hg t1 t3 hc
 obtain ⟨ci', _⟩ := ci.cp ha hf
 obtain ⟨fu, fe⟩ := h.full.copy ci.len ci.hy ci.hg hc (Or.inl ha)
 have ef : (k.cp s a).f = upf s.f a ((k.N + s.g : Nat) : Int) := by rw [Ck.cp_eq hc]
 have eg : (k.cp s a).g = s.g + (1 + (pf (k.ld s a)).toNat) := by rw [Ck.cp_eq hc]
 have e1 : ∀ b, b ≠ a -> (k.cp s a).f b = s.f b := fun b hb => by rw [ef]; unfold upf; rw [if_neg hb]
 have e2 : (k.cp s a).f a = ((k.N + s.g : Nat) : Int) := by rw [ef]; unfold upf; rw [if_pos rfl]
 have lo : ∀ b, b < (k.N : Int) + s.g -> k.ld (k.cp s a) b = k.ld s b := fun b hb => by rw [hl, if_neg (by omega)]
 have pg : Pg k s (k.cp s a) := ⟨fun b hb => e1 b (fun e => hb (by rw [e]; exact hf)), by rw [eg]; omega, fun b h1 h2 h3 => by rw [lo b h2]; exact h3⟩
 have or' : ∀ c b, k.or z (k.cp s a) c b -> k.or z s c b \/ (c = a /\ b = ((k.N + s.g : Nat) : Int)) := fun c b ho => by
  rcases ho with ho | ⟨o1, o2, o3⟩
  ·exact Or.inl (Or.inl ho)
  ·by_cases e : c = a
   ·rw [e, e2] at o2
    exact Or.inr ⟨e, o2.symm⟩
   ·rw [e1 c e] at o2
    exact Or.inl (Or.inr ⟨o1, o2, o3⟩)
 refine ⟨⟨ci', by rw [eg]; omega, by rw [<- List.append_assoc]; exact fu, h.zh, fun b h0 h1 => ?_, fun c hc' h1 => ?_, fun c hc' b hb h1 h2 => ?_, fun b hb => ?_, fun b hb => ?_, fun c b ho => ?_, fun c b ho i i0 i1 => ?_⟩, pg, e2⟩
 ·rw [lo b (by have := ci.hy; omega)]
  exact h.yw b h0 h1
 ·by_cases e : c = a
  ·rw [e, e2]; simp
  ·rw [e1 c e] at h1 ⊢
   exact List.mem_append_left _ (h.fh c hc' h1)
 ·by_cases ec : c = a
  ·by_cases eb : b = a
   ·rw [ec, eb]
   ·rw [ec, e2, e1 b eb] at h2
    have := h.bdH (h.fh b hb (by rw [<- h2]; omega))
    omega
  ·by_cases eb : b = a
   ·rw [eb, e2, e1 c ec] at h2
    rw [e1 c ec] at h1
    have := h.bdH (h.fh c hc' h1)
    omega
   ·rw [e1 c ec, e1 b eb] at h2
    rw [e1 c ec] at h1
    exact h.inj c hc' b hb h1 h2
 ·rcases List.mem_append.1 hb with hb | hb
  ·obtain ⟨c, hc', e⟩ := h.sur b hb
   have hn : s.f c ≠ -1 := by have := h.bdH hb; omega
   exact ⟨c, hc', by rw [pg.f c hn]; exact e⟩
  ·simp at hb
   exact ⟨a, ha, by rw [e2, hb]; omega⟩
 ·rcases List.mem_append.1 hb with hb | hb
  ·exact h.hlo b hb
  ·simp at hb
   omega
 ·rcases or' c b ho with ho | ⟨rfl, rfl⟩
  ·have hm := h.bd (h.mem ho)
   rw [lo b (by have := pf_bd (k.ld s b); omega)]
   exact h.hd c b ho
  ·have := h.yw c t1 (by omega)
   rw [<- this]
   exact fe
 ·rcases or' c b ho with ho | ⟨rfl, rfl⟩
  ·have hm := h.bd (h.mem ho)
   have e := h.hd c b ho
   rw [lo (b + 1 + i) (by rw [e] at hm; omega)]
   exact pg.ml (h.fd c b ho i i0 i1)
  ·have e := h.yw c t1 (by omega)
   rw [<- e] at i1
   refine Or.inl ?_
   rw [hl, if_pos (by omega), <- h.yw (c + 1 + i) (by omega) (by omega)]
   congr 1
   omega
theorem MI.st (h : MI k z s H) {a b i x : Int} (ho : k.or z s a b) (i0 : 0 <= i) (i1 : i < pf (k.l0 z a)) (hx : k.ml s (k.l0 z (a + 1 + i)) x) : MI k z (k.st s (b + 1 + i) x) H /\ k.ld (k.st s (b + 1 + i) x) (b + 1 + i) = x /\ (∀ c, c ≠ b + 1 + i -> k.ld (k.st s (b + 1 + i) x) c = k.ld s c) := by
 have ci := h.ci
 have hm := h.mem ho
 have hb := h.bd hm
 have e := h.hd a b ho
 rw [e] at hb
 have hi : iB k.N k.y s.g (b + 1 + i) = true := iB_o (by omega) (by omega)
 have hl := Ck.ld_st ci.len ci.hy ci.hg (b + 1 + i) x
 have same : k.ld (k.st s (b + 1 + i) x) (b + 1 + i) = x := by rw [hl, if_pos ⟨rfl, hi⟩]
 have oth : ∀ c, c ≠ b + 1 + i -> k.ld (k.st s (b + 1 + i) x) c = k.ld s c := fun c hc => by rw [hl, if_neg (fun e => hc e.1)]
 have ew : k.st s (b + 1 + i) x = { s with ws := s.ws.set (b + 1 + i).toNat x } := by unfold Ck.st; rw [if_pos hi]
 have ap : ∀ c d, k.or z s c d -> ∀ j, 0 <= j -> j < pf (k.l0 z c) -> d + 1 + j = b + 1 + i -> c = a /\ d = b /\ j = i := fun c d hcd j j0 j1 e3 => by
  have hd := h.mem hcd
  have ec := h.hd c d hcd
  have ed : d = b := by
   rcases Int.lt_trichotomy d b with l | l | l
   ·have := h.full.to.apart d hd b hm l
    have this : d + (1 + pf (k.ld s d)) <= b := this
    rw [ec] at this
    omega
   ·exact l
   ·have := h.full.to.apart b hm d hd l
    have this : b + (1 + pf (k.ld s b)) <= d := this
    rw [e] at this
    omega
  refine ⟨?_, ed, by omega⟩
  rw [ed] at hcd
  rcases hcd with ⟨c1, c2⟩ | ⟨c1, c2, c3⟩ <;> rcases ho with ⟨o1, o2⟩ | ⟨o1, o2, o3⟩
  ·omega
  ·have h5 := h.hlo b (o2 ▸ h.fh a o1 (by rw [o2]; exact o3))
   have h6 := h.zh b c2
   omega
  ·have h5 := h.hlo b (c2 ▸ h.fh c c1 (by rw [c2]; exact c3))
   have h6 := h.zh b o2
   omega
  ·exact h.inj c c1 a o1 (by rw [c2]; exact c3) (c2.trans o2.symm)
 have fl : Full2 k.N k.y (k.st s (b + 1 + i) x).g (k.st s (b + 1 + i) x).ws k.T (z.G ++ H) := by
  rw [ew]
  exact (h.full.set ci.len ci.hy ci.hg (v := b) (i := i) (z := x) (Or.inr hm) i0 (by show i < pf (k.ld s b); rw [e]; exact i1)).1
 refine ⟨⟨ci.st (by omega) x, h.zg, fl, h.zh, fun c h0 h1 => ?_, h.fh, h.inj, h.sur, h.hlo, fun c d hcd => ?_, fun c d hcd j j0 j1 => ?_⟩, same, oth⟩
 ·rw [oth c (by have := ci.hy; omega)]
  exact h.yw c h0 h1
 ·have hcd : k.or z s c d := hcd
  rw [oth d (fun e3 => ?_)]
  ·exact h.hd c d hcd
  ·exact h.full.to.field hm i0 (by show i < pf (k.ld s b); rw [e]; exact i1) (e3 ▸ h.mem hcd)
 ·have hcd : k.or z s c d := hcd
  by_cases e3 : d + 1 + j = b + 1 + i
  ·obtain ⟨rfl, rfl, rfl⟩ := ap c d hcd j j0 j1 e3
   rw [same]
   exact hx
  ·rw [oth _ e3]
   exact h.fd c d hcd j j0 j1
theorem Pg.st (ci : CI k s) {a x : Int} (hx : k.yg x = false) : Pg k s (k.st s a x) :=
 ⟨fun _ _ => rfl, Nat.le_refl _, fun b _ _ h3 => by
  rw [Ck.ld_st ci.len ci.hy ci.hg]
  split
  ·exact hx
  ·exact h3⟩
theorem MI.br (h : MI k z s H) (x : Int) : ∃ H', MI k z (k.br s x).2 H' /\ Pg k s (k.br s x).2 /\ k.yg (k.br s x).1 = false /\ (∃ H2, H' = H ++ H2) /\ (∀ x0, k.ml s x0 x -> k.ml (k.br s x).2 x0 (k.br s x).1) /\ (k.yg x = true -> (k.br s x).2.f (aV x) ≠ -1) /\ (k.br s x).1 = k.nw (k.br s x).2 x := by
 have ci := h.ci
 have n1 := ci.hN'
 have n2 := ci.hO
 have key : ∀ (t : Cs) (Ht : List Int), MI k z t Ht -> Pg k s t -> (k.yg x = true -> t.f (aV x) ≠ -1) -> k.yg (k.nw t x) = false /\ ∀ x0, k.ml s x0 x -> k.ml t x0 (k.nw t x) := fun t Ht ht pg hy => by
  by_cases c : k.yg x = true
  ·have hn := hy c
   have hT : aV x ∈ k.T := by
    unfold Ck.yg at c
    simp at c
    exact c.2
   have e : k.nw t x = ew 3 (t.f (aV x)) := by unfold Ck.nw; rw [c, if_pos (by simp [hn])]
   have hb := ht.bdH (ht.fh _ hT hn)
   have hg := ht.ci.hg
   rw [e]
   refine ⟨yg_old ht.ci hb.1 (by omega), fun x0 hm => ?_⟩
   rcases hm with rfl | ⟨m1, m2, m3⟩
   ·exact Or.inr ⟨c, hn, rfl⟩
   ·exfalso
    have hT0 : aV x0 ∈ k.T := by
     unfold Ck.yg at m1
     simp at m1
     exact m1.2
    have hb0 := h.bdH (h.fh _ hT0 m2)
    have hg0 := ci.hg
    rw [m3, yg_old ci hb0.1 (by omega)] at c
    simp at c
  ·have c : k.yg x = false := by simpa using c
   have e : k.nw t x = x := by unfold Ck.nw; rw [c]; simp
   rw [e]
   exact ⟨c, fun x0 hm => pg.ml hm⟩
 unfold Ck.br
 by_cases c : k.ls s x = true
 ·obtain ⟨c1, c2, c3⟩ := Ck.ls_yes c
  obtain ⟨m1, m2, m3⟩ := h.cp c2 c3
  have hn : (k.cp s (aV x)).f (aV x) ≠ -1 := by rw [m3]; omega
  obtain ⟨k1, k2⟩ := key _ _ m1 m2 (fun _ => hn)
  rw [if_pos c]
  exact ⟨_, m1, m2, k1, ⟨_, rfl⟩, k2, fun _ => hn, rfl⟩
 ·have hn : k.yg x = true -> s.f (aV x) ≠ -1 := fun hy e => c (by unfold Ck.ls; rw [hy, e]; rfl)
  obtain ⟨k1, k2⟩ := key s H h (Pg.refl _ _) hn
  rw [if_neg c]
  exact ⟨H, h, Pg.refl _ _, k1, ⟨[], by simp⟩, k2, hn, rfl⟩
theorem MI.kf (h : MI k z s H) {a b i : Int} (ho : k.or z s a b) (i0 : 0 <= i) (i1 : i < pf (k.l0 z a)) : ∃ H', MI k z (k.kf s (b + 1 + i)) H' /\ Pg k s (k.kf s (b + 1 + i)) /\ k.yg (k.ld (k.kf s (b + 1 + i)) (b + 1 + i)) = false /\ ∃ H2, H' = H ++ H2 := by
 obtain ⟨H', m1, m2, m3, m4, m5, _, _⟩ := h.br (k.ld s (b + 1 + i))
 obtain ⟨s1, s2, s3⟩ := m1.st (m2.or ho) i0 i1 (m5 _ (h.fd a b ho i i0 i1))
 refine ⟨H', s1, m2.trans (Pg.st m1.ci m3), ?_, m4⟩
 unfold Ck.kf
 rw [s2]
 exact m3
theorem MI.kfs (h : MI k z s H) {a b : Int} (ho : k.or z s a b) : ∀ n : Nat, (n : Int) <= pf (k.l0 z a) -> ∃ H', MI k z (k.kfs s b n) H' /\ Pg k s (k.kfs s b n) /\ (∀ i : Nat, i < n -> k.yg (k.ld (k.kfs s b n) (b + 1 + i)) = false) /\ ∃ H2, H' = H ++ H2
 | 0, _ => ⟨H, h, Pg.refl _ _, fun i hi => by omega, ⟨[], by simp⟩⟩
 | n + 1, hn => by
  obtain ⟨H1, m1, m2, m3, ⟨H2, m4⟩⟩ := MI.kfs h ho n (by omega)
  obtain ⟨H3, j1, j2, j3, ⟨H4, j4⟩⟩ := m1.kf (m2.or ho) (i := n) (by omega) (by omega)
  refine ⟨H3, j1, m2.trans j2, fun i hi => ?_, ⟨H2 ++ H4, by rw [j4, m4, List.append_assoc]⟩⟩
  by_cases e : i = n
  ·rw [e]; exact j3
  ·have hb := m1.bd (m1.mem (m2.or ho))
   have e2 := m1.hd _ _ (m2.or ho)
   rw [e2] at hb
   exact j2.cl _ (by omega) (by omega) (m3 i (by omega))
end
end Go.Proofs.YtnalfnlmaallmaaGreat

namespace Go.Proofs.YtnalfnlmaallmaaGreat
open Go.RowKit W Kp Stl
section
variable {k : Ck} {z : C0} {s t u : Cs} {H : List Int}
theorem pf_two {x : Int} (h : pc x = 0) (h3 : pk x = 1 \/ pk x = 3 \/ pk x = 4) : pf x = 2 := by
 unfold pc at h
 unfold pk at h3
 unfold pf
 split at h
 ·rename_i e
  rw [if_pos e] at h3 ⊢
  generalize x % 16 = a at *
  generalize x / 16 = f at *
  unfold hc at e
  rcases h3 with h3 | h3 | h3
  ·rw [if_pos h3] at e
   split at e
   ·assumption
   ·omega
  ·rw [if_neg (by omega), if_pos h3] at e
   split at e
   ·assumption
   ·omega
  ·rw [if_neg (by omega), if_neg (by omega), if_pos h3] at e
   split at e
   ·assumption
   ·omega
 ·omega
theorem pk_all {x : Int} (h : pc x = 0) : (pk x = 1 \/ pk x = 2) \/ pk x = 3 \/ pk x = 4 \/ (pk x = 5 /\ pf x = 0) := by
 unfold pc at h
 unfold pk pf
 split at h
 ·rename_i e
  rw [if_pos e, if_pos e]
  have hb := hc_bd _ _ e
  generalize x % 16 = a at *
  generalize x / 16 = f at *
  by_cases h5 : a = 5
  ·right; right; right
   refine ⟨h5, ?_⟩
   unfold hc at e
   rw [if_neg (by omega), if_neg (by omega), if_neg (by omega), if_neg (by omega), if_pos h5] at e
   split at e
   ·assumption
   ·omega
  ·omega
 ·omega
theorem kf_wk (k : Ck) (s : Cs) (a : Int) : (k.kf s a).wk = s.wk /\ (k.kf s a).ep = s.ep /\ (k.kf s a).nx = s.nx /\ (k.kf s a).rs = s.rs := by
 unfold Ck.kf Ck.st Ck.br
 dsimp only
 split <;> exact ⟨rfl, rfl, rfl, rfl⟩
theorem kfs_wk (k : Ck) (s : Cs) (a : Int) : ∀ n, (k.kfs s a n).wk = s.wk /\ (k.kfs s a n).ep = s.ep /\ (k.kfs s a n).nx = s.nx /\ (k.kfs s a n).rs = s.rs
 | 0 => ⟨rfl, rfl, rfl, rfl⟩
 | n + 1 => by
  obtain ⟨h1, h2, h3, h4⟩ := kfs_wk k s a n
  obtain ⟨j1, j2, j3, j4⟩ := kf_wk k (k.kfs s a n) (a + 1 + n)
  exact ⟨j1.trans h1, j2.trans h2, j3.trans h3, j4.trans h4⟩
theorem lk_nx (k : Ck) (s : Cs) (a : Int) : (k.lk s a).nx = s.nx /\ (k.lk s a).rs = s.rs := by
 unfold Ck.lk
 split
 ·exact ⟨(kfs_wk _ _ _ _).2.2.1, (kfs_wk _ _ _ _).2.2.2⟩
 ·split
  ·exact ⟨(kf_wk _ _ _).2.2.1, (kf_wk _ _ _).2.2.2⟩
  ·split <;> exact ⟨rfl, rfl⟩
theorem MI.turn (h : MI k z s H) (wk ep rs : List Int) (nx : Int) (hw : ∀ a ∈ wk, (k.N : Int) <= a /\ a <= 2000) (he : ∀ a ∈ ep, (k.N : Int) <= a /\ a <= 2000) (h0 : (k.N : Int) <= nx) (h1 : nx <= (k.N : Int) + k.O + 13) : MI k z { s with wk := wk, ep := ep, rs := rs, nx := nx } H :=
  { ci := { hN := h.ci.hN, hN' := h.ci.hN', hO := h.ci.hO, hy := h.ci.hy, hg := h.ci.hg, len := h.ci.len, th := h.ci.th, nd := h.ci.nd, room := h.ci.room, nx0 := h0, nx1 := h1, wk0 := hw, ep0 := he, tl := h.ci.tl }
    zg := h.zg, full := h.full, zh := h.zh, yw := h.yw, fh := h.fh, inj := h.inj, sur := h.sur, hlo := h.hlo, hd := h.hd, fd := h.fd }
theorem Pg.turn (k : Ck) (s : Cs) (wk ep rs : List Int) (nx : Int) : Pg k s { s with wk := wk, ep := ep, rs := rs, nx := nx } := ⟨fun _ _ => rfl, Nat.le_refl _, fun _ _ _ h => h⟩
def Lo (k : Ck) (s : Cs) (b : Int) : Prop := ∀ i, 0 <= i -> i < pf (k.ld s b) -> k.yg (k.ld s (b + 1 + i)) = false \/ (pk (k.ld s b) = 3 /\ i = 0 /\ b ∈ s.wk) \/ (pk (k.ld s b) = 4 /\ b ∈ s.ep)
theorem MI.lk (h : MI k z s H) {a b : Int} (ho : k.or z s a b) : ∃ H', MI k z (k.lk s b) H' /\ Pg k s (k.lk s b) /\ (∃ H2, H' = H ++ H2) /\ Lo k (k.lk s b) b /\ (∀ c ∈ s.wk, c ∈ (k.lk s b).wk) /\ ∀ c ∈ s.ep, c ∈ (k.lk s b).ep := by
 have hb := h.bd (h.mem ho)
 have hg := h.ci.hg
 have hN := h.ci.hN'
 have hO := h.ci.hO
 have e0 := h.hd a b ho
 have hbp := pf_bd (k.ld s b)
 unfold Ck.lk
 by_cases c1 : pk (k.ld s b) = 1 \/ pk (k.ld s b) = 2
 ·rw [if_pos c1]
  obtain ⟨H', m1, m2, m3, m4⟩ := h.kfs ho (pf (k.ld s b)).toNat (by rw [<- e0]; omega)
  have e1 := m1.hd a b (m2.or ho)
  refine ⟨H', m1, m2, m4, fun i i0 i1 => Or.inl ?_, fun c hc => by rw [(kfs_wk _ _ _ _).1]; exact hc, fun c hc => by rw [(kfs_wk _ _ _ _).2.1]; exact hc⟩
  rw [e1, <- e0] at i1
  have h3 := m3 i.toNat (by omega)
  rw [Int.toNat_of_nonneg i0] at h3
  exact h3
 ·rw [if_neg c1]
  by_cases c3 : pk (k.ld s b) = 3
  ·rw [if_pos c3]
   have hf2 := pf_two hb.2.2 (Or.inr (Or.inl c3))
   have h2 := h.turn (s.wk ++ [b]) s.ep s.rs s.nx (fun x hx => by
    rcases List.mem_append.1 hx with d | d
    ·exact h.ci.wk0 x d
    ·rw [List.mem_singleton] at d
     subst d
     omega) h.ci.ep0 h.ci.nx0 h.ci.nx1
   obtain ⟨H', m1, m2, m3, m4⟩ := h2.kf (a := a) (b := b) (i := 1) ho (by omega) (by rw [<- e0]; omega)
   have ea : b + 1 + 1 = b + 2 := by omega
   rw [ea] at m1 m2 m3
   have e1 := m1.hd a b (m2.or ho)
   refine ⟨H', m1, (Pg.turn k s (s.wk ++ [b]) s.ep s.rs s.nx).trans m2, m4, fun i i0 i1 => ?_, fun c hc => by rw [(kf_wk _ _ _).1]; exact List.mem_append_left _ hc, fun c hc => by rw [(kf_wk _ _ _).2.1]; exact hc⟩
   rw [e1, <- e0, hf2] at i1
   by_cases ei : i = 0
   ·refine Or.inr (Or.inl ⟨by rw [e1, <- e0]; exact c3, ei, ?_⟩)
    rw [(kf_wk _ _ _).1]
    simp
   ·have ei2 : i = 1 := by omega
    subst ei2
    rw [ea]
    exact Or.inl m3
  ·rw [if_neg c3]
   by_cases c4 : pk (k.ld s b) = 4
   ·rw [if_pos c4]
    refine ⟨H, h.turn s.wk (s.ep ++ [b]) s.rs s.nx h.ci.wk0 (fun x hx => by
     rcases List.mem_append.1 hx with d | d
     ·exact h.ci.ep0 x d
     ·rw [List.mem_singleton] at d
      subst d
      omega) h.ci.nx0 h.ci.nx1, Pg.turn k s s.wk (s.ep ++ [b]) s.rs s.nx, ⟨[], by simp⟩, fun i i0 i1 => Or.inr (Or.inr ⟨c4, by simp⟩), fun c hc => hc, fun c hc => List.mem_append_left _ hc⟩
   ·rw [if_neg c4]
    refine ⟨H, h, Pg.refl _ _, ⟨[], by simp⟩, fun i i0 i1 => ?_, fun c hc => hc, fun c hc => hc⟩
    have := pk_all hb.2.2
    omega
theorem Lo.go {b : Int} {K : List Int} (h : Lo k s b) (hs : MI k z s H) (ht : MI k z t K) (p : Pg k s t) {a : Int} (ho : k.or z s a b) (hw : b ∈ s.wk -> b ∈ t.wk) (he : b ∈ s.ep -> b ∈ t.ep) : Lo k t b := by
 have e0 := hs.hd a b ho
 have e1 := ht.hd a b (p.or ho)
 have hb := hs.bd (hs.mem ho)
 intro i i0 i1
 rw [e1, <- e0] at i1
 rw [e1, <- e0]
 rcases h i i0 i1 with d | ⟨d1, d2, d3⟩ | ⟨d1, d2⟩
 ·exact Or.inl (p.cl _ (by omega) (by omega) d)
 ·exact Or.inr (Or.inl ⟨d1, d2, hw d3⟩)
 ·exact Or.inr (Or.inr ⟨d1, he d2⟩)
end
end Go.Proofs.YtnalfnlmaallmaaGreat

namespace Go.Proofs.YtnalfnlmaallmaaGreat
open Go.RowKit W Kp Stl
def sumF (g : Int -> Nat) (l : List Int) : Nat := (l.map g).sum
theorem sumF_cons (g : Int -> Nat) (a : Int) (l : List Int) : sumF g (a :: l) = g a + sumF g l := by simp [sumF]
theorem sumF_app (g : Int -> Nat) (l m : List Int) : sumF g (l ++ m) = sumF g l + sumF g m := by simp [sumF]
theorem sumF_into {g h : Int -> Nat} (R : Int -> Int -> Prop) (hR : ∀ a b c, R a c -> R b c -> a = b) : ∀ (l T : List Int), l.Nodup -> T.Nodup -> (∀ b ∈ l, ∃ a ∈ T, R b a /\ g b = h a) -> sumF g l <= sumF h T
 | [], T, _, _, _ => Nat.zero_le _
 | b :: l, T, hl, hT, hx => by
  obtain ⟨a, ha, r, e⟩ := hx b (by simp)
  rw [List.nodup_cons] at hl
  have h1 := sum_less h T a hT ha
  have h2 := sumF_into R hR l (T.filter (fun c => !(c == a))) hl.2 (hT.filter _) (fun c hc => by
   obtain ⟨d, hd, r2, e2⟩ := hx c (List.mem_cons_of_mem _ hc)
   refine ⟨d, List.mem_filter.2 ⟨hd, ?_⟩, r2, e2⟩
   cases q : d == a
   ·rfl
   ·have q2 : d = a := by simpa using q
    rw [q2] at r2
    exact absurd (hR c b a r2 r ▸ hc) hl.1)
  rw [sumF_cons]
  unfold sumF at h2 ⊢
  omega
theorem sumF_sub {g : Int -> Nat} {l T : List Int} (hl : l.Nodup) (hT : T.Nodup) (hs : ∀ a ∈ l, a ∈ T) : sumF g l <= sumF g T :=
 sumF_into (fun a b => a = b) (fun _ _ _ h1 h2 => h1.trans h2.symm) l T hl hT (fun b hb => ⟨b, hs b hb, rfl, rfl⟩)
def szL (L : Int -> Int) (a : Int) : Nat := 1 + (pf (L a)).toNat
theorem Tile.sum {L : Int -> Int} {hi : Int} : ∀ {l : List Int} {a : Int}, Tile L hi a l -> (sumF (szL L) l : Int) = hi - a
 | [], a, h => by
  have h : a = hi := h
  simp [sumF, h]
 | x :: l, a, h => by
  obtain ⟨rfl, _, h1, ht⟩ := h
  have ih := Tile.sum ht
  have hp := pf_bd (L x)
  rw [sumF_cons]
  unfold szL at ih ⊢
  omega
theorem Tile.nodup {L : Int -> Int} {hi : Int} : ∀ {l : List Int} {a : Int}, Tile L hi a l -> l.Nodup
 | [], _, _ => List.nodup_nil
 | x :: l, a, h => by
  obtain ⟨rfl, _, _, ht⟩ := h
  rw [List.nodup_cons]
  refine ⟨fun c => ?_, Tile.nodup ht⟩
  have := (ht.mem x c).1
  have hp := pf_bd (L x)
  omega
def szV (ns : List (Int × List (Int × Int))) : Nat := (ns.map (fun nd => 1 + if nd.1 = 5 then 0 else nd.2.length)).sum
theorem szV_of {kd : Int -> Int} {z : Int -> Nat} : ∀ (ns : List (Int × List (Int × Int))) (l : List Int), ns.length = l.length -> (∀ i, i < l.length -> (1 + if (ns.getD i (0, [])).1 = 5 then 0 else (ns.getD i (0, [])).2.length) = z (l.getD i 0)) -> szV ns = sumF z l
 | [], [], _, _ => rfl
 | [], x :: l, h, _ => by simp at h
 | x :: ns, [], h, _ => by simp at h
 | nd :: ns, a :: l, h, e => by
  have h0 := e 0 (by simp)
  have h1 := szV_of (kd := kd) ns l (by simpa using h) (fun i hi => by
   have := e (i + 1) (by simpa using hi)
   simpa using this)
  rw [sumF_cons, <- h1]
  simp at h0
  simp [szV, h0]
theorem view_bd (N y g : Nat) (ws : List Int) (Q : List En) (rs : List Int) : (vwL N y g ws Q rs).1.length = rs.length /\ (vwL N y g ws Q rs).2.2.length <= 4000 /\ ∀ nd ∈ (vwL N y g ws Q rs).2.2, nd.2.length <= Q.length + 12 := by
 have hv := vwL_go N y g ws Q rs
 refine ⟨vls_len _ _ _ _, ?_, fun nd hnd => ?_⟩
 ·rw [hv.ok.len]
  refine Nat.le_trans hv.ok.le ?_
  rw [List.length_append]
  have h1 : (thY N y g ws).length <= 2000 := ths_le _ _
  have h2 : (thO N y g ws).length <= 2000 := ths_le _ _
  omega
 ·obtain ⟨i, hi, e⟩ := List.mem_iff_getElem.1 hnd
  obtain ⟨nd', q1, _, q3, _⟩ := hv.nw i (Nat.zero_le _) (by rw [<- hv.ok.len]; exact hi)
  rw [List.getElem?_eq_getElem hi, e] at q1
  have q1 : nd = nd' := by simpa using q1
  rw [q1, q3]
  exact shL_len N y g ws Q _
section
variable {N O y g : Nat} {ws Y G : List Int}
theorem shL_n (h : Full2 N y g ws Y G) (hy : y <= N) (Q : List En) {a : Int} (ha : a ∈ Y \/ a ∈ G) (h5 : pk (ld N y g ws a) ≠ 5) : ((shL N y g ws Q a).length : Int) = pf (ld N y g ws a) := by
 have hp := pf_bd (ld N y g ws a)
 unfold shL
 rw [if_neg h5, h.stands hy ha]
 simp
 omega
end
end Go.Proofs.YtnalfnlmaallmaaGreat

namespace Go.Proofs.YtnalfnlmaallmaaGreat
open Go.RowKit W Kp Stl
def Pos (z : Int -> Int) (al : Int -> Bool) (f : Int -> Int) : Int -> List Int -> Int -> Prop
 | n, [], m => n = m
 | n, a :: l, m => (al a = true -> f a = n /\ Pos z al f (n + (1 + z a)) l m) /\ (al a = false -> f a = -1 /\ Pos z al f n l m)
section
variable {z : Int -> Int} {al : Int -> Bool} {f : Int -> Int}
theorem Pos.le (hz : ∀ a, 0 <= z a) : ∀ {l : List Int} {n m : Int}, Pos z al f n l m -> n <= m
 | [], n, m, h => Int.le_of_eq h
 | a :: l, n, m, h => by
  have := hz a
  cases c : al a
  ·exact Pos.le hz (h.2 c).2
  ·have := Pos.le hz (h.1 c).2
   omega
theorem Pos.app : ∀ {l l' : List Int} {n m : Int}, Pos z al f n (l ++ l') m -> ∃ n', Pos z al f n l n' /\ Pos z al f n' l' m
 | [], l', n, m, h => ⟨n, rfl, h⟩
 | a :: l, l', n, m, h => by
  cases c : al a
  ·obtain ⟨n', h1, h2⟩ := Pos.app (h.2 c).2
   exact ⟨n', ⟨fun d => (by rw [c] at d; cases d), fun _ => ⟨(h.2 c).1, h1⟩⟩, h2⟩
  ·obtain ⟨n', h1, h2⟩ := Pos.app (h.1 c).2
   exact ⟨n', ⟨fun _ => ⟨(h.1 c).1, h1⟩, fun d => (by rw [c] at d; cases d)⟩, h2⟩
theorem Pos.bd (hz : ∀ a, 0 <= z a) : ∀ {l : List Int} {n m : Int}, Pos z al f n l m -> ∀ a ∈ l, al a = true -> n <= f a /\ f a + (1 + z a) <= m
 | [], n, m, h, a, ha, _ => by cases ha
 | b :: l, n, m, h, a, ha, hl => by
  rcases List.mem_cons.1 ha with e | ha
  ·rw [e] at hl ⊢
   obtain ⟨h1, h2⟩ := h.1 hl
   have := h2.le hz
   omega
  ·have := hz b
   cases c : al b
   ·exact Pos.bd hz (h.2 c).2 a ha hl
   ·have := Pos.bd hz (h.1 c).2 a ha hl
    omega
theorem Pos.no : ∀ {l : List Int} {n m : Int}, Pos z al f n l m -> ∀ a ∈ l, al a = false -> f a = -1
 | [], n, m, h, a, ha, _ => by cases ha
 | b :: l, n, m, h, a, ha, hl => by
  rcases List.mem_cons.1 ha with e | ha
  ·rw [e] at hl ⊢
   exact (h.2 hl).1
  ·cases c : al b
   ·exact Pos.no (h.2 c).2 a ha hl
   ·exact Pos.no (h.1 c).2 a ha hl
theorem Pos.inj (hz : ∀ a, 0 <= z a) : ∀ {l : List Int} {n m : Int}, Pos z al f n l m -> ∀ a ∈ l, ∀ b ∈ l, al a = true -> al b = true -> f a = f b -> a = b
 | [], n, m, h, a, ha, _, _, _, _, _ => by cases ha
 | x :: l, n, m, h, a, ha, b, hb, la, lb, e => by
  have hzx := hz x
  rcases List.mem_cons.1 ha with ea | ha
  ·rcases List.mem_cons.1 hb with eb | hb
   ·rw [ea, eb]
   ·rw [ea] at la e
    obtain ⟨h1, h2⟩ := h.1 la
    have := h2.bd hz b hb lb
    omega
  ·rcases List.mem_cons.1 hb with eb | hb
   ·rw [eb] at lb e
    obtain ⟨h1, h2⟩ := h.1 lb
    have := h2.bd hz a ha la
    omega
   ·cases c : al x
    ·exact Pos.inj hz (h.2 c).2 a ha b hb la lb e
    ·exact Pos.inj hz (h.1 c).2 a ha b hb la lb e
theorem Pos.tile (hz : ∀ a, 0 <= z a) {L : Int -> Int} : ∀ {l : List Int} {n m : Int}, Pos z al f n l m -> (∀ a ∈ l, al a = true -> pc (L (f a)) = 0 /\ pf (L (f a)) = z a) -> Tile L m n ((l.filter al).map f)
 | [], n, m, h, _ => by
  have h : n = m := h
  rw [h]
  exact Tile.done
 | a :: l, n, m, h, hl => by
  cases c : al a
  ·rw [List.filter_cons_of_neg (by simp [c])]
   exact Pos.tile hz (h.2 c).2 (fun b hb => hl b (List.mem_cons_of_mem _ hb))
  ·rw [List.filter_cons_of_pos c, List.map_cons]
   obtain ⟨h1, h2⟩ := h.1 c
   obtain ⟨q1, q2⟩ := hl a (by simp) c
   rw [h1] at q1 q2 ⊢
   have h3 := h2.le hz
   refine Tile.step q1 (by rw [q2]; exact h3) ?_
   rw [q2]
   exact Pos.tile hz h2 (fun b hb => hl b (List.mem_cons_of_mem _ hb))
theorem Pos.sum : ∀ {l : List Int} {n m : Int}, Pos z al f n l m -> (∀ a, 0 <= z a) -> (sumF (fun a => 1 + (z a).toNat) (l.filter al) : Int) = m - n
 | [], n, m, h, _ => by
  have h : n = m := h
  simp [sumF, h]
 | a :: l, n, m, h, hz => by
  have := hz a
  cases c : al a
  ·rw [List.filter_cons_of_neg (by simp [c])]
   exact Pos.sum (h.2 c).2 hz
  ·rw [List.filter_cons_of_pos c, sumF_cons]
   have := Pos.sum (h.1 c).2 hz
   omega
end
theorem pl_pos (k : Jk) (al : Int -> Bool) : ∀ (l : List Int) (t : Js × Int), l.Nodup -> (∀ a ∈ l, al a = !(t.1.f a == -1)) -> Pos (fun a => pf (k.ld a)) al (k.plL t l).1.f t.2 l (k.plL t l).2 /\ (∀ b, b ∉ l -> (k.plL t l).1.f b = t.1.f b) /\ (k.plL t l).1.td = t.1.td /\ (k.plL t l).1.ep = t.1.ep
 | [], t, _, _ => ⟨rfl, fun _ _ => rfl, rfl, rfl⟩
 | a :: l, t, hn, ha => by
  rw [List.nodup_cons] at hn
  have e0 : k.plL t (a :: l) = k.plL (ejS (fun t a => t.1.f a) k.plS t a) l := rfl
  have ha0 := ha a (by simp)
  by_cases c : t.1.f a = -1
  ·have e1 : ejS (fun t a => t.1.f a) k.plS t a = t := by unfold ejS; rw [if_pos c]
   rw [e0, e1]
   obtain ⟨i1, i2, i3, i4⟩ := pl_pos k al l t hn.2 (fun b hb => ha b (List.mem_cons_of_mem _ hb))
   have ea : al a = false := by rw [ha0, c]; rfl
   exact ⟨⟨fun h => (by rw [ea] at h; cases h), fun _ => ⟨by rw [i2 a hn.1]; exact c, i1⟩⟩, fun b hb => i2 b (fun d => hb (List.mem_cons_of_mem _ d)), i3, i4⟩
  ·have e1 : ejS (fun t a => t.1.f a) k.plS t a = k.plS t a := by unfold ejS; rw [if_neg c]
   rw [e0, e1]
   obtain ⟨i1, i2, i3, i4⟩ := pl_pos k al l (k.plS t a) hn.2 (fun b hb => by
    have hne : b ≠ a := fun e => hn.1 (e ▸ hb)
    show al b = !(upf t.1.f a t.2 b == -1)
    unfold upf
    rw [if_neg hne]
    exact ha b (List.mem_cons_of_mem _ hb))
   have ea : al a = true := by rw [ha0, beq_false_of_ne c]; rfl
   refine ⟨⟨fun _ => ⟨?_, i1⟩, fun h => (by rw [ea] at h; cases h)⟩, fun b hb => ?_, i3, i4⟩
   ·rw [i2 a hn.1]
    show upf t.1.f a t.2 a = _
    unfold upf
    rw [if_pos rfl]
   ·rw [i2 b (fun d => hb (List.mem_cons_of_mem _ d))]
    show upf t.1.f a t.2 b = _
    unfold upf
    rw [if_neg (fun e => hb (by rw [e]; simp))]
end Go.Proofs.YtnalfnlmaallmaaGreat

namespace Go.Proofs.YtnalfnlmaallmaaGreat
set_option maxRecDepth 100000
set_option maxHeartbeats 2000000
open Go.RowKit W Kp Stl
section
variable {rp rb : Nat} {most grow : Int} {F : Nat -> Prop} {s : Wrs} {w : World}
def Wrs.sT (s : Wrs) (A B : Nat) (I : Int) : List Tw1 := s.T.set (s.th A).toNat ((s.T.getD (s.th A).toNat (0, [], false, false)).1, (s.T.getD (s.th A).toNat (0, [], false, false)).2.1.set I.toNat (s.rs.getD B (0, 0)), (s.T.getD (s.th A).toNat (0, [], false, false)).2.2)
theorem doSet_any (h : (wrO rp rb most grow).J F s w) (A B : Nat) (hA : A < 12) (hB : B < 12) (I : Int) (hth : 0 <= s.th A -> s.th A < s.T.length) (hT : ∀ t ∈ s.T, t.2.1.length <= 12) (hl : s.T.length <= 10000) :
  Calls Tryz.prog 26 #[.pointer (some ⟨rp, 0, none⟩), stpV 12 0 A B I 0] w fun e w' => ∃ F', e = .returned (.int .i64 (s.gc A I)) /\ (wrO rp rb most grow).J F' (if s.gc A I = 0 then { s with T := s.sT A B I } else s) w' /\ Tn F w F' w' := by
 have hb0 := (Below.refl w.heap.size w).alloc (Nat.le_refl _) (stpC 12 0 A B I 0)
 have P := stepFault_any 12 0 A B I 0 (Or.inr (Or.inr (Or.inr (Or.inr rfl)))) ⟨by omega, by omega⟩ ⟨by omega, by omega⟩ ⟨by omega, by omega⟩ (w.alloc (stpC 12 0 A B I 0))
 have e1 : sfC 12 0 = 0 := rfl
 rw [e1] at P
 have HJ : Hid ((wrO rp rb most grow).J F s w /\ Below w.heap.size w (w.alloc (stpC 12 0 A B I 0))) := ⟨h, hb0⟩
 have HGC : Hid (s.gc A I = if s.th A < 0 \/ (s.T.getD (s.th A).toNat (0, [], false, false)).1 = 5 then 2 else if I < 0 \/ ((s.T.getD (s.th A).toNat (0, [], false, false)).2.1.length : Int) <= I then 1 else 0) := rfl
 have HGF : Hid (s.sT A B I = s.T.set (s.th A).toNat ((s.T.getD (s.th A).toNat (0, [], false, false)).1, (s.T.getD (s.th A).toNat (0, [], false, false)).2.1.set I.toNat (s.rs.getD B (0, 0)), (s.T.getD (s.th A).toNat (0, [], false, false)).2.2)) := rfl
 clear h hb0 e1
 generalize s.gc A I = z at HGC ⊢
 generalize s.sT A B I = fv at HGF ⊢
 have PT := fun w' (hh : (wrO rp rb most grow).J F s w') => thingW_any hh A hA
 generalize s.th A = a at *
 go_enter Tryz.func26, Tryz.ntmps26
 go_wp2_with fail
 refine P.mono ?_
 clear P
 rintro e w1 ⟨rfl, hb1⟩
 have hb := HJ.out.2.trans (hb1.mono (by simp))
 have hJ1 := (wrO rp rb most grow).below HJ.out.1 hb
 have hx : w1.heap[w.heap.size]? = some (stpC 12 0 A B I 0) := (hb1.block _ (by simp)).trans (heap_alloc_new _ _)
 have q0 : w1.cell? ⟨w.heap.size, 0, none⟩ = some (.int .i64 12) := by simp [World.cell?, hx]
 have q3 : w1.cell? ⟨w.heap.size, 3, none⟩ = some (.int .i64 B) := by simp [World.cell?, hx]
 have q2 : w1.cell? ⟨w.heap.size, 2, none⟩ = some (.int .i64 A) := by simp [World.cell?, hx]
 have q4 : w1.cell? ⟨w.heap.size, 4, none⟩ = some (.int .i64 I) := by simp [World.cell?, hx]
 obtain ⟨c1, _, _, lrp, lrb, cz, hrl, cr⟩ := wr_cells hJ1
 obtain ⟨x0, x1, y0, y1⟩ := cr B hB
 obtain ⟨nrb, hFb, hFp⟩ := wr_ne hJ1
 have lb := (wrO rp rb most grow).lt HJ.out.1 rb hFb
 have lp := (wrO rp rb most grow).lt HJ.out.1 rp hFp
 have nx1 : rb ≠ w.heap.size := by omega
 have nx2 : rp ≠ w.heap.size := by omega
 obtain ⟨aT, cT, t0, tne, tx⟩ := wr_things hJ1
 have HJ1 : Hid ((wrO rp rb most grow).J F s w1 /\ Tn F w F w1) := ⟨hJ1, Tn.of hb⟩
 have Q := PT w1 hJ1
 have r0 : (0 : Int) <= (B : Int) := by omega
 have r1 : (B : Int) < 12 := by omega
 clear hJ1 hb hb1 hx cr cz HJ PT
 go_wp2_with fail
 refine Q.mono ?_
 clear Q
 rintro e w2 ⟨rfl, hw2⟩
 have hw2 := hw2.symm
 subst hw2
 by_cases ha : a < 0
 ·have hz : z = 2 := by rw [HGC.out, if_pos (Or.inl ha)]
  clear tx
  go_wp2_with fail
  go_ret
  exact ⟨rfl, F, HJ1.out.1, HJ1.out.2⟩
 ·obtain ⟨j, rfl⟩ : ∃ j : Nat, a = j := ⟨a.toNat, by omega⟩
  have hlt : j < s.T.length := by have := hth (by omega); omega
  obtain ⟨t, ht⟩ : ∃ t, s.T[j]? = some t := ⟨_, List.getElem?_eq_getElem hlt⟩
  obtain ⟨b, ad, cp, rfl, u0, u1, _, _, hLp, hfn⟩ := tx j t ht
  have ht12 := hT t (List.mem_of_getElem? ht)
  have eT : s.T.getD (j : Int).toNat (0, [], false, false) = t := by rw [Int.toNat_natCast, List.getD_eq_getElem?_getD, ht]; rfl
  rw [eT] at HGC HGF
  have jn : decide ((j : Int) < 0) = false := by simp
  have j0 : (0 : Int) <= (j : Int) := by omega
  have j1 : (j : Int) < (s.T.length : Int) := by omega
  clear tx eT hth hT
  obtain ⟨kd, fs, od, dd⟩ := t
  dsimp only at u0 u1 hLp ht12 HGC HGF hfn
  by_cases hk : kd = 5
  ·subst hk
   have hz : z = 2 := by rw [HGC.out, if_pos (Or.inr rfl)]
   clear hLp hfn ht
   go_wp2_with fail
   go_ret
   exact ⟨rfl, F, HJ1.out.1, HJ1.out.2⟩
  ·have hkb : (kd == 5) = false := by simpa using hk
   by_cases hI : I < 0 \/ (fs.length : Int) <= I
   ·have hz : z = 1 := by rw [HGC.out, if_neg (by omega), if_pos hI]
    by_cases hI0 : I < 0
    ·clear hLp hfn ht
     go_wp2_with fail
     go_ret
     exact ⟨rfl, F, HJ1.out.1, HJ1.out.2⟩
    ·have hI1 : (fs.length : Int) <= I := by omega
     clear hLp hfn ht
     go_wp2_with fail
     go_ret
     exact ⟨rfl, F, HJ1.out.1, HJ1.out.2⟩
   ·have hz : z = 0 := by rw [HGC.out, if_neg (by omega), if_neg hI]
    obtain ⟨l, rfl⟩ : ∃ l : Nat, I = l := ⟨I.toNat, by omega⟩
    rw [Int.toNat_natCast] at HGF
    have hfl : 0 < fs.length := by omega
    obtain ⟨fb, fo, e0, hfb, hc⟩ := hLp hfl
    subst e0
    have hcl : ∀ k u, (ev fs)[k]? = some u -> w1.cell? ((⟨fb, fo, none⟩ : Addr).add k) = some u := fun k u hk => by
     have hkl : k < (ev fs).length := (List.getElem?_eq_some_iff.1 hk).1
     rw [ev_length] at hkl
     obtain ⟨e1, e2⟩ := ev_get fs (k / 2) (by omega)
     obtain ⟨d1, d2⟩ := hc (k / 2) (by omega)
     rw [Addr.add_lit]
     rcases Nat.mod_two_eq_zero_or_one k with hm | hm
     ·have ek : k = k / 2 * 2 := by omega
      rw [ek, e1] at hk
      have ek2 : fo + k = fo + k / 2 * 2 := by omega
      rw [ek2, d1]
      exact hk
     ·have ek : k = k / 2 * 2 + 1 := by omega
      rw [ek, e2] at hk
      have ek2 : fo + k = fo + k / 2 * 2 + 1 := by omega
      rw [ek2, d2]
      exact hk
    have hon : ∀ u ∈ ev fs, u.oneCell' = true := fun u hu => by
     simp [ev] at hu
     obtain ⟨a, b, _, h | h⟩ := hu <;> (rw [h]; rfl)
    obtain ⟨i0, hi0, hz0, hz1, hz2⟩ := info_parts infoVal
    have HZ : Hid (z = 0) := hz
    generalize hg1 : (s.rs.getD B (0, 0)).1 = g1 at x0
    generalize hg2 : (s.rs.getD B (0, 0)).2 = g2 at x1
    have HFV : Hid (fv = s.T.set j (kd, fs.set l (g1, g2), od, dd)) := by
     show _ = _
     rw [HGF.out, <- hg1, <- hg2, Int.toNat_natCast]
    have l0 : (0 : Int) <= (l : Int) := by omega
    have l1 : (l : Int) < (fs.length : Int) := by omega
    have nl0 : ¬ (l : Int) < 0 := by omega
    have nl1 : ¬ (fs.length : Int) <= (l : Int) := by omega
    obtain ⟨b9, e9, tn1, tn2⟩ := tne (by omega)
    cases e9
    have HTT : Hid (s.T[j]? = some (kd, fs, od, dd)) := ht
    have ltb := World.block_lt_of_cell? w1 _ u1
    clear hc tne hz HGC HGF hI hfn hg1 hg2 hLp ht
    have sx : w.heap.size < w1.heap.size := World.block_lt_of_cell? w1 _ q0
    go_upto_region 63 with (at_builtin; refine wpList_append_src _ rfl _ _ 62 rfl w1.heap.size 100 i0 (.agg #[.int .i64 0, .int .i64 0]) 2 16 Tryz.underlying62 hi0 hz0 hz1 hz2 rfl (by decide) (.slice none 0 0) 0 [] rfl (World.ownsRow_nil _ _ _ _) (some ⟨fb, fo, none⟩) fs.length cp (ev fs) rfl (ev_length fs) (fun e => by simp at e) (fun a e k u hk => by cases e; exact hcl k u hk) hon (by unfold maxLen; omega) (by omega) (Nat.le_refl _) ?_; intro aq cq w2 hoq hgq hlq; rw [Nat.zero_add, List.nil_append] at hoq; obtain ⟨nb, ncap, enb⟩ := row_shape hoq hfl; cases enb; have HNB : Hid (nb = w1.heap.size) := (by show nb = w1.heap.size; rcases hlq with e | e <;> simp [Value.ownBlock] at e; exact e); have hbq : Below w1.heap.size w1 w2 := (Below.refl _ _).grown hgq (Nat.le_refl _) (fun _ h => by cases h); have p0 := (hbq.cell (p := ⟨w.heap.size, 3, none⟩) sx).trans q3; have p1 := (hbq.cell (p := ⟨w.heap.size, 4, none⟩) sx).trans q4; have p2 := (hbq.cell (p := ⟨rp, 1, none⟩) lrp).trans c1; have p3 := (hbq.cell (p := ⟨rb, B * 2, none⟩) lrb).trans x0; have p4 := (hbq.cell (p := ⟨rb, B * 2 + 1, none⟩) lrb).trans x1; have p5 := (hbq.cell (p := ⟨rp, 0, none⟩) lrp).trans t0; have lnb := (row_lt hoq nb rfl).2)
    have fz := fun o => show w2.frozen? ⟨nb, o, none⟩ = false from (by
     obtain ⟨cur, hcur⟩ := row_type hoq nb rfl
     simp [World.frozen?, hcur])
    have f0 := fz (l * 2)
    have f1 := fz (l * 2 + 1)
    have nn1 : nb ≠ w.heap.size := by have := HNB.out; omega
    have nn2 : nb ≠ rp := by have := HNB.out; omega
    have nn3 : nb ≠ rb := by have := HNB.out; omega
    obtain ⟨b', o', e', _, hcc⟩ := row_pairs hoq hfl
    cases e'
    obtain ⟨m0, m1⟩ := hcc l (by omega)
    rw [Nat.zero_add] at m0 m1
    generalize (fs.getD l (0, 0)).1 = og1 at m0
    generalize (fs.getD l (0, 0)).2 = og2 at m1
    have HR : Hid (w2.ownsRow w1.heap.size 100 2 (.slice (some ⟨nb, 0, none⟩) fs.length cq) fs.length (ev fs) /\ Below w1.heap.size w1 w2) := ⟨hoq, hbq⟩
    clear fz hoq hgq hlq hbq hcc
    go_region_held3 (fun w' => w'.cell? ⟨w.heap.size, 3, none⟩ = some (.int .i64 B) /\ w'.cell? ⟨w.heap.size, 4, none⟩ = some (.int .i64 l) /\ w'.cell? ⟨rp, 1, none⟩ = some (.slice (some ⟨rb, 0, none⟩) 12 12) /\ w'.cell? ⟨rb, B * 2, none⟩ = some (.int .i64 g1) /\ w'.cell? ⟨rb, B * 2 + 1, none⟩ = some (.int .i64 g2)) (go_keep) (fail)
    have hnb := HNB.out
    have hsz : ∀ u v, ((w2.setCell ⟨nb, l * 2, none⟩ u).setCell ⟨nb, l * 2 + 1, none⟩ v).heap.size = w2.heap.size := fun u v => by simp [World.setCell]
    have hkk : ∀ u v k, k ≠ nb -> ((w2.setCell ⟨nb, l * 2, none⟩ u).setCell ⟨nb, l * 2 + 1, none⟩ v).heap[k]? = w2.heap[k]? := fun u v k hk => (Below.heap_setCell _ _ _ _ hk).trans (Below.heap_setCell _ _ _ _ hk)
    have hrow := row_put (row_put HR.out.1 (l * 2) (.int .i64 g1)) (l * 2 + 1) (.int .i64 g2)
    rw [<- ev_root fs l (g1, g2)] at hrow
    have hB3 : Below w1.heap.size w1 ((w2.setCell ⟨nb, l * 2, none⟩ (.int .i64 g1)).setCell ⟨nb, l * 2 + 1, none⟩ (.int .i64 g2)) := (HR.out.2.setCell (by show w1.heap.size <= nb; omega) _).setCell (by show w1.heap.size <= nb; omega) _
    have hrow := row_keep (w' := ((w2.setCell ⟨nb, l * 2, none⟩ (.int .i64 g1)).setCell ⟨nb, l * 2 + 1, none⟩ (.int .i64 g2)).drew) hrow (fun _ _ => rfl)
    have hB3 := hB3.drew
    have p5 := (hB3.cell (p := ⟨rp, 0, none⟩) lrp).trans t0
    have p6 := (hB3.cell (p := ⟨b, j * 4 + 1, none⟩) ltb).trans u1
    have hJ3 := (wrO rp rb most grow).below HJ1.out.1 hB3
    have hT3 := HJ1.out.2.below hB3
    have hl3 := hB3.size
    have hl1 := HJ1.out.2.fr.size
    have ltF := (wrO rp rb most grow).lt HJ1.out.1
    generalize ((w2.setCell ⟨nb, l * 2, none⟩ (.int .i64 g1)).setCell ⟨nb, l * 2 + 1, none⟩ (.int .i64 g2)).drew = w3 at *
    obtain ⟨mm, vT, hmm, cT3, hrow3, _, _, _, hset⟩ := wr_row hJ3
    obtain rfl : vT = .slice (some ⟨b, 0, none⟩) s.T.length cT := by
     have := cT3.symm.trans p5
     simpa using this
    obtain ⟨x, hx, hxe⟩ : ∃ x, mm[j]? = some x /\ x.1 = (kd, fs, od, dd) := by
     have h1 := HTT.out
     rw [<- hmm] at h1
     simp at h1
     obtain ⟨a, b, c⟩ := h1
     exact ⟨_, c, rfl⟩
    obtain ⟨s1, s2⟩ := hset j x (some ⟨nb, 0, none⟩) cq (fs.set l (g1, g2)) b hx rfl (row_pairs (by simpa using hrow)) (fun b' o' _ e => by
     cases e
     intro d
     have := ltF _ d
     omega)
    rw [hxe, List.length_set] at s1
    rw [List.length_set] at s2
    have fzb : w3.frozen? ⟨b, j * 4 + 1, none⟩ = false := by
     obtain ⟨cur, hcur⟩ := row_type hrow3 b rfl
     simp [World.frozen?, hcur]
    have HF : Hid (∃ F', (wrO rp rb most grow).J F' { s with T := fv } (w3.setCell ⟨b, j * 4 + 1, none⟩ (.slice (some ⟨nb, 0, none⟩) fs.length cq)) /\ Tn F w F' (w3.setCell ⟨b, j * 4 + 1, none⟩ (.slice (some ⟨nb, 0, none⟩) fs.length cq))) := by
     rw [HFV.out]
     refine ⟨_, s1, ⟨hT3.fr.trans s2 (fun _ d => Or.inl d), fun b' d => ?_⟩⟩
     rcases d with d | ⟨_, o', e⟩
     ·exact Or.inl d
     ·cases e
      exact Or.inr (by omega)
    clear hrow hJ3 hT3 hset hrow3 s1 s2 hmm hx hxe HR hkk hsz cT3 hnb
    go_wp2_with fail
    go_ret
    obtain ⟨F', k1, k2⟩ := HF.out
    try rw [HZ.out]
    exact ⟨rfl, F', k1, k2⟩
end
end Go.Proofs.YtnalfnlmaallmaaGreat
