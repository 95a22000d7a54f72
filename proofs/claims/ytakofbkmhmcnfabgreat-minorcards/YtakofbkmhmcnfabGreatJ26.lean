/- Joined: Mn4, Mn18, Mn19, Mn20, Mn21, Mn22. -/
import Derived.Test.YtakofbkmhmcnfabGreatJ10
import Derived.Test.YtakofbkmhmcnfabGreatJ25
/- A small cut: where things are brought, what their fields are then: lists alone. -/
namespace Go.Proofs.YtakofbkmhmcnfabGreat
open Go.RowKit W Kp Stl Apart2

/-- The wood ahead of the cut. -/
structure C0 where
  g : Nat
  ws : List Int
  G : List Int

/-- The word at a place, ahead. -/
def Ck.l0 (k : Ck) (z : C0) (a : Int) : Int := Proofs.YtakofbkmhmcnfabGreat.ld k.N k.y z.g z.ws a
/-- Where a thing is now. -/
def Ck.or (k : Ck) (z : C0) (s : Cs) (a b : Int) : Prop := (a = b ∧ b ∈ z.G) ∨ (a ∈ k.T ∧ s.f a = b ∧ b ≠ -1)
/-- A word as it was, or told anew. -/
def Ck.ml (k : Ck) (s : Cs) (x0 x : Int) : Prop := x = x0 ∨ (k.yg x0 = true ∧ s.f (aV x0) ≠ -1 ∧ x = ew 3 (s.f (aV x0)))

structure MI (k : Ck) (z : C0) (s : Cs) (H : List Int) : Prop where
  ci : CI k s
  zg : z.g ≤ s.g
  full : Full2 k.N k.y s.g s.ws k.T (z.G ++ H)
  zh : ∀ b ∈ z.G, b < (k.N : Int) + z.g
  yw : ∀ b, 0 ≤ b → b < (k.y : Int) → k.ld s b = k.l0 z b
  fh : ∀ a ∈ k.T, s.f a ≠ -1 → s.f a ∈ H
  inj : ∀ a ∈ k.T, ∀ b ∈ k.T, s.f a ≠ -1 → s.f a = s.f b → a = b
  sur : ∀ b ∈ H, ∃ a ∈ k.T, s.f a = b
  hlo : ∀ b ∈ H, (k.N : Int) + z.g ≤ b
  hd : ∀ a b, k.or z s a b → k.ld s b = k.l0 z a
  fd : ∀ a b, k.or z s a b → ∀ i, 0 ≤ i → i < pf (k.l0 z a) → k.ml s (k.l0 z (a + 1 + i)) (k.ld s (b + 1 + i))

/-- One state behind another. -/
structure Pg (k : Ck) (s t : Cs) : Prop where
  f : ∀ a, s.f a ≠ -1 → t.f a = s.f a
  g : s.g ≤ t.g
  cl : ∀ b, (k.N : Int) ≤ b → b < (k.N : Int) + s.g → k.yg (k.ld s b) = false → k.yg (k.ld t b) = false

section
variable {k : Ck} {z : C0} {s t u : Cs} {H : List Int}

theorem Pg.refl (k : Ck) (s : Cs) : Pg k s s := ⟨fun _ _ => rfl, Nat.le_refl _, fun _ _ _ h => h⟩
theorem Pg.trans (h : Pg k s t) (j : Pg k t u) : Pg k s u :=
  ⟨fun a ha => (j.f a (by rw [h.f a ha]; exact ha)).trans (h.f a ha), Nat.le_trans h.g j.g, fun b h1 h2 h3 => j.cl b h1 (by have := h.g; omega) (h.cl b h1 h2 h3)⟩
theorem Pg.or (h : Pg k s t) {a b : Int} (ho : k.or z s a b) : k.or z t a b := by
  rcases ho with ho | ⟨h1, h2, h3⟩
  · exact Or.inl ho
  · exact Or.inr ⟨h1, (h.f a (by rw [h2]; exact h3)).trans h2, h3⟩
theorem Pg.ml (h : Pg k s t) {x0 x : Int} (ho : k.ml s x0 x) : k.ml t x0 x := by
  rcases ho with ho | ⟨h1, h2, h3⟩
  · exact Or.inl ho
  · exact Or.inr ⟨h1, by rw [h.f _ h2]; exact h2, by rw [h.f _ h2]; exact h3⟩

/-- Where a thing is now it is one of the old space. -/
theorem MI.mem (h : MI k z s H) {a b : Int} (ho : k.or z s a b) : b ∈ z.G ++ H := by
  rcases ho with ⟨_, hb⟩ | ⟨h1, h2, h3⟩
  · exact List.mem_append_left _ hb
  · exact List.mem_append_right _ (h2 ▸ h.fh a h1 (by rw [h2]; exact h3))
theorem MI.from (h : MI k z s H) {b : Int} (hb : b ∈ z.G ++ H) : ∃ a, k.or z s a b := by
  rcases List.mem_append.1 hb with hb | hb
  · exact ⟨b, Or.inl ⟨rfl, hb⟩⟩
  · obtain ⟨a, ha, e⟩ := h.sur b hb
    have := h.hlo b hb
    exact ⟨a, Or.inr ⟨ha, e, by omega⟩⟩
theorem MI.bd (h : MI k z s H) {b : Int} (hb : b ∈ z.G ++ H) : (k.N : Int) ≤ b ∧ b + (1 + pf (k.ld s b)) ≤ (k.N : Int) + s.g ∧ pc (k.ld s b) = 0 := h.full.to.mem b hb
theorem MI.bdH (h : MI k z s H) {b : Int} (hb : b ∈ H) : (k.N : Int) ≤ b ∧ b < (k.N : Int) + s.g := by
  have h1 := h.bd (List.mem_append_right _ hb)
  have := pf_bd (k.ld s b)
  omega
/-- A place of the old space is none of a young thing. -/
theorem CI.notT (h : CI k s) {a : Int} (ha : (k.N : Int) ≤ a) : a ∉ k.T := fun c => by
  have h1 := h.at_y c
  have := h.hy
  omega
theorem yg_old (h : CI k s) {n : Int} (h0 : (k.N : Int) ≤ n) (h1 : n < 1000000) : k.yg (ew 3 n) = false := by
  have e := at_enc 3 n (vc3_in n (by omega) (by omega))
  unfold Ck.yg
  rw [e.1, e.2 rfl]
  simp
  exact h.notT h0

/-- A thing is copied. -/
theorem MI.cp (h : MI k z s H) {a : Int} (ha : a ∈ k.T) (hf : s.f a = -1) : MI k z (k.cp s a) (H ++ [((k.N + s.g : Nat) : Int)]) ∧ Pg k s (k.cp s a) ∧ (k.cp s a).f a = ((k.N + s.g : Nat) : Int) := by
  have ci := h.ci
  have hc := ci.cpB ha hf
  obtain ⟨t1, t2, t3⟩ := ci.th a ha
  have hp := pf_bd (k.ld s a)
  have hz := h.zg
  have hl := Ck.ld_cp ci.len ci.hy ci.hg t1 t3 hc
  obtain ⟨ci', _⟩ := ci.cp ha hf
  obtain ⟨fu, fe⟩ := h.full.copy ci.len ci.hy ci.hg hc (Or.inl ha)
  have ef : (k.cp s a).f = upf s.f a ((k.N + s.g : Nat) : Int) := by rw [Ck.cp_eq hc]
  have eg : (k.cp s a).g = s.g + (1 + (pf (k.ld s a)).toNat) := by rw [Ck.cp_eq hc]
  have e1 : ∀ b, b ≠ a → (k.cp s a).f b = s.f b := fun b hb => by rw [ef]; unfold upf; rw [if_neg hb]
  have e2 : (k.cp s a).f a = ((k.N + s.g : Nat) : Int) := by rw [ef]; unfold upf; rw [if_pos rfl]
  have lo : ∀ b, b < (k.N : Int) + s.g → k.ld (k.cp s a) b = k.ld s b := fun b hb => by rw [hl, if_neg (by omega)]
  have pg : Pg k s (k.cp s a) := ⟨fun b hb => e1 b (fun e => hb (by rw [e]; exact hf)), by rw [eg]; omega, fun b h1 h2 h3 => by rw [lo b h2]; exact h3⟩
  have or' : ∀ c b, k.or z (k.cp s a) c b → k.or z s c b ∨ (c = a ∧ b = ((k.N + s.g : Nat) : Int)) := fun c b ho => by
    rcases ho with ho | ⟨o1, o2, o3⟩
    · exact Or.inl (Or.inl ho)
    · by_cases e : c = a
      · rw [e, e2] at o2
        exact Or.inr ⟨e, o2.symm⟩
      · rw [e1 c e] at o2
        exact Or.inl (Or.inr ⟨o1, o2, o3⟩)
  refine ⟨⟨ci', by rw [eg]; omega, by rw [← List.append_assoc]; exact fu, h.zh, fun b h0 h1 => ?_, fun c hc' h1 => ?_, fun c hc' b hb h1 h2 => ?_, fun b hb => ?_, fun b hb => ?_, fun c b ho => ?_, fun c b ho i i0 i1 => ?_⟩, pg, e2⟩
  · rw [lo b (by have := ci.hy; omega)]
    exact h.yw b h0 h1
  · by_cases e : c = a
    · rw [e, e2]; simp
    · rw [e1 c e] at h1 ⊢
      exact List.mem_append_left _ (h.fh c hc' h1)
  · by_cases ec : c = a
    · by_cases eb : b = a
      · rw [ec, eb]
      · rw [ec, e2, e1 b eb] at h2
        have := h.bdH (h.fh b hb (by rw [← h2]; omega))
        omega
    · by_cases eb : b = a
      · rw [eb, e2, e1 c ec] at h2
        rw [e1 c ec] at h1
        have := h.bdH (h.fh c hc' h1)
        omega
      · rw [e1 c ec, e1 b eb] at h2
        rw [e1 c ec] at h1
        exact h.inj c hc' b hb h1 h2
  · rcases List.mem_append.1 hb with hb | hb
    · obtain ⟨c, hc', e⟩ := h.sur b hb
      have hn : s.f c ≠ -1 := by have := h.bdH hb; omega
      exact ⟨c, hc', by rw [pg.f c hn]; exact e⟩
    · simp at hb
      exact ⟨a, ha, by rw [e2, hb]; omega⟩
  · rcases List.mem_append.1 hb with hb | hb
    · exact h.hlo b hb
    · simp at hb
      omega
  · rcases or' c b ho with ho | ⟨rfl, rfl⟩
    · have hm := h.bd (h.mem ho)
      rw [lo b (by have := pf_bd (k.ld s b); omega)]
      exact h.hd c b ho
    · have := h.yw c t1 (by omega)
      rw [← this]
      exact fe
  · rcases or' c b ho with ho | ⟨rfl, rfl⟩
    · have hm := h.bd (h.mem ho)
      have e := h.hd c b ho
      rw [lo (b + 1 + i) (by rw [e] at hm; omega)]
      exact pg.ml (h.fd c b ho i i0 i1)
    · have e := h.yw c t1 (by omega)
      rw [← e] at i1
      refine Or.inl ?_
      rw [hl, if_pos (by omega), ← h.yw (c + 1 + i) (by omega) (by omega)]
      congr 1
      omega

/-- A field is stored. -/
theorem MI.st (h : MI k z s H) {a b i x : Int} (ho : k.or z s a b) (i0 : 0 ≤ i) (i1 : i < pf (k.l0 z a)) (hx : k.ml s (k.l0 z (a + 1 + i)) x) : MI k z (k.st s (b + 1 + i) x) H ∧ k.ld (k.st s (b + 1 + i) x) (b + 1 + i) = x ∧ (∀ c, c ≠ b + 1 + i → k.ld (k.st s (b + 1 + i) x) c = k.ld s c) := by
  have ci := h.ci
  have hm := h.mem ho
  have hb := h.bd hm
  have e := h.hd a b ho
  rw [e] at hb
  have hi : iB k.N k.y s.g (b + 1 + i) = true := iB_o (by omega) (by omega)
  have hl := Ck.ld_st ci.len ci.hy ci.hg (b + 1 + i) x
  have same : k.ld (k.st s (b + 1 + i) x) (b + 1 + i) = x := by rw [hl, if_pos ⟨rfl, hi⟩]
  have oth : ∀ c, c ≠ b + 1 + i → k.ld (k.st s (b + 1 + i) x) c = k.ld s c := fun c hc => by rw [hl, if_neg (fun e => hc e.1)]
  have ew : k.st s (b + 1 + i) x = { s with ws := s.ws.set (b + 1 + i).toNat x } := by unfold Ck.st; rw [if_pos hi]
  have ap : ∀ c d, k.or z s c d → ∀ j, 0 ≤ j → j < pf (k.l0 z c) → d + 1 + j = b + 1 + i → c = a ∧ d = b ∧ j = i := fun c d hcd j j0 j1 e3 => by
    have hd := h.mem hcd
    have ec := h.hd c d hcd
    have ed : d = b := by
      rcases Int.lt_trichotomy d b with l | l | l
      · have := h.full.to.apart d hd b hm l
        have this : d + (1 + pf (k.ld s d)) ≤ b := this
        rw [ec] at this
        omega
      · exact l
      · have := h.full.to.apart b hm d hd l
        have this : b + (1 + pf (k.ld s b)) ≤ d := this
        rw [e] at this
        omega
    refine ⟨?_, ed, by omega⟩
    rw [ed] at hcd
    rcases hcd with ⟨c1, c2⟩ | ⟨c1, c2, c3⟩ <;> rcases ho with ⟨o1, o2⟩ | ⟨o1, o2, o3⟩
    · omega
    · have h5 := h.hlo b (o2 ▸ h.fh a o1 (by rw [o2]; exact o3))
      have h6 := h.zh b c2
      omega
    · have h5 := h.hlo b (c2 ▸ h.fh c c1 (by rw [c2]; exact c3))
      have h6 := h.zh b o2
      omega
    · exact h.inj c c1 a o1 (by rw [c2]; exact c3) (c2.trans o2.symm)
  have fl : Full2 k.N k.y (k.st s (b + 1 + i) x).g (k.st s (b + 1 + i) x).ws k.T (z.G ++ H) := by
    rw [ew]
    exact (h.full.set ci.len ci.hy ci.hg (v := b) (i := i) (z := x) (Or.inr hm) i0 (by show i < pf (k.ld s b); rw [e]; exact i1)).1
  refine ⟨⟨ci.st (by omega) x, h.zg, fl, h.zh, fun c h0 h1 => ?_, h.fh, h.inj, h.sur, h.hlo, fun c d hcd => ?_, fun c d hcd j j0 j1 => ?_⟩, same, oth⟩
  · rw [oth c (by have := ci.hy; omega)]
    exact h.yw c h0 h1
  · have hcd : k.or z s c d := hcd
    rw [oth d (fun e3 => ?_)]
    · exact h.hd c d hcd
    · exact h.full.to.field hm i0 (by show i < pf (k.ld s b); rw [e]; exact i1) (e3 ▸ h.mem hcd)
  · have hcd : k.or z s c d := hcd
    by_cases e3 : d + 1 + j = b + 1 + i
    · obtain ⟨rfl, rfl, rfl⟩ := ap c d hcd j j0 j1 e3
      rw [same]
      exact hx
    · rw [oth _ e3]
      exact h.fd c d hcd j j0 j1

theorem Pg.st (ci : CI k s) {a x : Int} (hx : k.yg x = false) : Pg k s (k.st s a x) :=
  ⟨fun _ _ => rfl, Nat.le_refl _, fun b _ _ h3 => by
    rw [Ck.ld_st ci.len ci.hy ci.hg]
    split
    · exact hx
    · exact h3⟩

/-- What a word leads to is brought. -/
theorem MI.br (h : MI k z s H) (x : Int) : ∃ H', MI k z (k.br s x).2 H' ∧ Pg k s (k.br s x).2 ∧ k.yg (k.br s x).1 = false ∧ (∃ H2, H' = H ++ H2) ∧ (∀ x0, k.ml s x0 x → k.ml (k.br s x).2 x0 (k.br s x).1) ∧ (k.yg x = true → (k.br s x).2.f (aV x) ≠ -1) ∧ (k.br s x).1 = k.nw (k.br s x).2 x := by
  have ci := h.ci
  have n1 := ci.hN'
  have n2 := ci.hO
  have key : ∀ (t : Cs) (Ht : List Int), MI k z t Ht → Pg k s t → (k.yg x = true → t.f (aV x) ≠ -1) → k.yg (k.nw t x) = false ∧ ∀ x0, k.ml s x0 x → k.ml t x0 (k.nw t x) := fun t Ht ht pg hy => by
    by_cases c : k.yg x = true
    · have hn := hy c
      have hT : aV x ∈ k.T := by
        unfold Ck.yg at c
        simp at c
        exact c.2
      have e : k.nw t x = ew 3 (t.f (aV x)) := by unfold Ck.nw; rw [c, if_pos (by simp [hn])]
      have hb := ht.bdH (ht.fh _ hT hn)
      have hg := ht.ci.hg
      rw [e]
      refine ⟨yg_old ht.ci hb.1 (by omega), fun x0 hm => ?_⟩
      rcases hm with rfl | ⟨m1, m2, m3⟩
      · exact Or.inr ⟨c, hn, rfl⟩
      · exfalso
        have hT0 : aV x0 ∈ k.T := by
          unfold Ck.yg at m1
          simp at m1
          exact m1.2
        have hb0 := h.bdH (h.fh _ hT0 m2)
        have hg0 := ci.hg
        rw [m3, yg_old ci hb0.1 (by omega)] at c
        simp at c
    · have c : k.yg x = false := by simpa using c
      have e : k.nw t x = x := by unfold Ck.nw; rw [c]; simp
      rw [e]
      exact ⟨c, fun x0 hm => pg.ml hm⟩
  unfold Ck.br
  by_cases c : k.ls s x = true
  · obtain ⟨c1, c2, c3⟩ := Ck.ls_yes c
    obtain ⟨m1, m2, m3⟩ := h.cp c2 c3
    have hn : (k.cp s (aV x)).f (aV x) ≠ -1 := by rw [m3]; omega
    obtain ⟨k1, k2⟩ := key _ _ m1 m2 (fun _ => hn)
    rw [if_pos c]
    exact ⟨_, m1, m2, k1, ⟨_, rfl⟩, k2, fun _ => hn, rfl⟩
  · have hn : k.yg x = true → s.f (aV x) ≠ -1 := fun hy e => c (by unfold Ck.ls; rw [hy, e]; rfl)
    obtain ⟨k1, k2⟩ := key s H h (Pg.refl _ _) hn
    rw [if_neg c]
    exact ⟨H, h, Pg.refl _ _, k1, ⟨[], by simp⟩, k2, hn, rfl⟩

/-- A field is kept. -/
theorem MI.kf (h : MI k z s H) {a b i : Int} (ho : k.or z s a b) (i0 : 0 ≤ i) (i1 : i < pf (k.l0 z a)) : ∃ H', MI k z (k.kf s (b + 1 + i)) H' ∧ Pg k s (k.kf s (b + 1 + i)) ∧ k.yg (k.ld (k.kf s (b + 1 + i)) (b + 1 + i)) = false ∧ ∃ H2, H' = H ++ H2 := by
  obtain ⟨H', m1, m2, m3, m4, m5, _, _⟩ := h.br (k.ld s (b + 1 + i))
  obtain ⟨s1, s2, s3⟩ := m1.st (m2.or ho) i0 i1 (m5 _ (h.fd a b ho i i0 i1))
  refine ⟨H', s1, m2.trans (Pg.st m1.ci m3), ?_, m4⟩
  unfold Ck.kf
  rw [s2]
  exact m3
theorem MI.kfs (h : MI k z s H) {a b : Int} (ho : k.or z s a b) : ∀ n : Nat, (n : Int) ≤ pf (k.l0 z a) → ∃ H', MI k z (k.kfs s b n) H' ∧ Pg k s (k.kfs s b n) ∧ (∀ i : Nat, i < n → k.yg (k.ld (k.kfs s b n) (b + 1 + i)) = false) ∧ ∃ H2, H' = H ++ H2
  | 0, _ => ⟨H, h, Pg.refl _ _, fun i hi => by omega, ⟨[], by simp⟩⟩
  | n + 1, hn => by
    obtain ⟨H1, m1, m2, m3, ⟨H2, m4⟩⟩ := MI.kfs h ho n (by omega)
    obtain ⟨H3, j1, j2, j3, ⟨H4, j4⟩⟩ := m1.kf (m2.or ho) (i := n) (by omega) (by omega)
    refine ⟨H3, j1, m2.trans j2, fun i hi => ?_, ⟨H2 ++ H4, by rw [j4, m4, List.append_assoc]⟩⟩
    by_cases e : i = n
    · rw [e]; exact j3
    · have hb := m1.bd (m1.mem (m2.or ho))
      have e2 := m1.hd _ _ (m2.or ho)
      rw [e2] at hb
      exact j2.cl _ (by omega) (by omega) (m3 i (by omega))
end

end Go.Proofs.YtakofbkmhmcnfabGreat

/- A small cut, of lists: a thing that was looked at. -/
namespace Go.Proofs.YtakofbkmhmcnfabGreat
open Go.RowKit W Kp Stl

section
variable {k : Ck} {z : C0} {s t u : Cs} {H : List Int}

theorem pf_two {x : Int} (h : pc x = 0) (h3 : pk x = 1 ∨ pk x = 3 ∨ pk x = 4) : pf x = 2 := by
  unfold pc at h
  unfold pk at h3
  unfold pf
  split at h
  · rename_i e
    rw [if_pos e] at h3 ⊢
    generalize x % 16 = a at *
    generalize x / 16 = f at *
    unfold hc at e
    rcases h3 with h3 | h3 | h3
    · rw [if_pos h3] at e
      split at e
      · assumption
      · omega
    · rw [if_neg (by omega), if_pos h3] at e
      split at e
      · assumption
      · omega
    · rw [if_neg (by omega), if_neg (by omega), if_pos h3] at e
      split at e
      · assumption
      · omega
  · omega
theorem pk_all {x : Int} (h : pc x = 0) : (pk x = 1 ∨ pk x = 2) ∨ pk x = 3 ∨ pk x = 4 ∨ (pk x = 5 ∧ pf x = 0) := by
  unfold pc at h
  unfold pk pf
  split at h
  · rename_i e
    rw [if_pos e, if_pos e]
    have hb := hc_bd _ _ e
    generalize x % 16 = a at *
    generalize x / 16 = f at *
    by_cases h5 : a = 5
    · right; right; right
      refine ⟨h5, ?_⟩
      unfold hc at e
      rw [if_neg (by omega), if_neg (by omega), if_neg (by omega), if_neg (by omega), if_pos h5] at e
      split at e
      · assumption
      · omega
    · omega
  · omega
theorem kf_wk (k : Ck) (s : Cs) (a : Int) : (k.kf s a).wk = s.wk ∧ (k.kf s a).ep = s.ep ∧ (k.kf s a).nx = s.nx ∧ (k.kf s a).rs = s.rs := by
  unfold Ck.kf Ck.st Ck.br
  dsimp only
  split <;> exact ⟨rfl, rfl, rfl, rfl⟩
theorem kfs_wk (k : Ck) (s : Cs) (a : Int) : ∀ n, (k.kfs s a n).wk = s.wk ∧ (k.kfs s a n).ep = s.ep ∧ (k.kfs s a n).nx = s.nx ∧ (k.kfs s a n).rs = s.rs
  | 0 => ⟨rfl, rfl, rfl, rfl⟩
  | n + 1 => by
    obtain ⟨h1, h2, h3, h4⟩ := kfs_wk k s a n
    obtain ⟨j1, j2, j3, j4⟩ := kf_wk k (k.kfs s a n) (a + 1 + n)
    exact ⟨j1.trans h1, j2.trans h2, j3.trans h3, j4.trans h4⟩
theorem lk_nx (k : Ck) (s : Cs) (a : Int) : (k.lk s a).nx = s.nx ∧ (k.lk s a).rs = s.rs := by
  unfold Ck.lk
  split
  · exact ⟨(kfs_wk _ _ _ _).2.2.1, (kfs_wk _ _ _ _).2.2.2⟩
  · split
    · exact ⟨(kf_wk _ _ _).2.2.1, (kf_wk _ _ _).2.2.2⟩
    · split <;> exact ⟨rfl, rfl⟩

theorem MI.turn (h : MI k z s H) (wk ep rs : List Int) (nx : Int) (hw : ∀ a ∈ wk, (k.N : Int) ≤ a ∧ a ≤ 2000) (he : ∀ a ∈ ep, (k.N : Int) ≤ a ∧ a ≤ 2000) (h0 : (k.N : Int) ≤ nx) (h1 : nx ≤ (k.N : Int) + k.O + 13) : MI k z { s with wk := wk, ep := ep, rs := rs, nx := nx } H :=
  { ci := { hN := h.ci.hN, hN' := h.ci.hN', hO := h.ci.hO, hy := h.ci.hy, hg := h.ci.hg, len := h.ci.len, th := h.ci.th, nd := h.ci.nd, room := h.ci.room, nx0 := h0, nx1 := h1, wk0 := hw, ep0 := he, tl := h.ci.tl }
    zg := h.zg, full := h.full, zh := h.zh, yw := h.yw, fh := h.fh, inj := h.inj, sur := h.sur, hlo := h.hlo, hd := h.hd, fd := h.fd }
theorem Pg.turn (k : Ck) (s : Cs) (wk ep rs : List Int) (nx : Int) : Pg k s { s with wk := wk, ep := ep, rs := rs, nx := nx } := ⟨fun _ _ => rfl, Nat.le_refl _, fun _ _ _ h => h⟩

/-- A thing of the old space that was looked at: its fields lead to no young thing, but what is weak in it. -/
def Lo (k : Ck) (s : Cs) (b : Int) : Prop := ∀ i, 0 ≤ i → i < pf (k.ld s b) → k.yg (k.ld s (b + 1 + i)) = false ∨ (pk (k.ld s b) = 3 ∧ i = 0 ∧ b ∈ s.wk) ∨ (pk (k.ld s b) = 4 ∧ b ∈ s.ep)

theorem MI.lk (h : MI k z s H) {a b : Int} (ho : k.or z s a b) : ∃ H', MI k z (k.lk s b) H' ∧ Pg k s (k.lk s b) ∧ (∃ H2, H' = H ++ H2) ∧ Lo k (k.lk s b) b ∧ (∀ c ∈ s.wk, c ∈ (k.lk s b).wk) ∧ ∀ c ∈ s.ep, c ∈ (k.lk s b).ep := by
  have hb := h.bd (h.mem ho)
  have hg := h.ci.hg
  have hN := h.ci.hN'
  have hO := h.ci.hO
  have e0 := h.hd a b ho
  have hbp := pf_bd (k.ld s b)
  unfold Ck.lk
  by_cases c1 : pk (k.ld s b) = 1 ∨ pk (k.ld s b) = 2
  · rw [if_pos c1]
    obtain ⟨H', m1, m2, m3, m4⟩ := h.kfs ho (pf (k.ld s b)).toNat (by rw [← e0]; omega)
    have e1 := m1.hd a b (m2.or ho)
    refine ⟨H', m1, m2, m4, fun i i0 i1 => Or.inl ?_, fun c hc => by rw [(kfs_wk _ _ _ _).1]; exact hc, fun c hc => by rw [(kfs_wk _ _ _ _).2.1]; exact hc⟩
    rw [e1, ← e0] at i1
    have h3 := m3 i.toNat (by omega)
    rw [Int.toNat_of_nonneg i0] at h3
    exact h3
  · rw [if_neg c1]
    by_cases c3 : pk (k.ld s b) = 3
    · rw [if_pos c3]
      have hf2 := pf_two hb.2.2 (Or.inr (Or.inl c3))
      have h2 := h.turn (s.wk ++ [b]) s.ep s.rs s.nx (fun x hx => by
        rcases List.mem_append.1 hx with d | d
        · exact h.ci.wk0 x d
        · rw [List.mem_singleton] at d
          subst d
          omega) h.ci.ep0 h.ci.nx0 h.ci.nx1
      obtain ⟨H', m1, m2, m3, m4⟩ := h2.kf (a := a) (b := b) (i := 1) ho (by omega) (by rw [← e0]; omega)
      have ea : b + 1 + 1 = b + 2 := by omega
      rw [ea] at m1 m2 m3
      have e1 := m1.hd a b (m2.or ho)
      refine ⟨H', m1, (Pg.turn k s (s.wk ++ [b]) s.ep s.rs s.nx).trans m2, m4, fun i i0 i1 => ?_, fun c hc => by rw [(kf_wk _ _ _).1]; exact List.mem_append_left _ hc, fun c hc => by rw [(kf_wk _ _ _).2.1]; exact hc⟩
      rw [e1, ← e0, hf2] at i1
      by_cases ei : i = 0
      · refine Or.inr (Or.inl ⟨by rw [e1, ← e0]; exact c3, ei, ?_⟩)
        rw [(kf_wk _ _ _).1]
        simp
      · have ei2 : i = 1 := by omega
        subst ei2
        rw [ea]
        exact Or.inl m3
    · rw [if_neg c3]
      by_cases c4 : pk (k.ld s b) = 4
      · rw [if_pos c4]
        refine ⟨H, h.turn s.wk (s.ep ++ [b]) s.rs s.nx h.ci.wk0 (fun x hx => by
          rcases List.mem_append.1 hx with d | d
          · exact h.ci.ep0 x d
          · rw [List.mem_singleton] at d
            subst d
            omega) h.ci.nx0 h.ci.nx1, Pg.turn k s s.wk (s.ep ++ [b]) s.rs s.nx, ⟨[], by simp⟩, fun i i0 i1 => Or.inr (Or.inr ⟨c4, by simp⟩), fun c hc => hc, fun c hc => List.mem_append_left _ hc⟩
      · rw [if_neg c4]
        refine ⟨H, h, Pg.refl _ _, ⟨[], by simp⟩, fun i i0 i1 => ?_, fun c hc => hc, fun c hc => hc⟩
        have := pk_all hb.2.2
        omega
/-- What was looked at stays so. -/
theorem Lo.go {b : Int} {K : List Int} (h : Lo k s b) (hs : MI k z s H) (ht : MI k z t K) (p : Pg k s t) {a : Int} (ho : k.or z s a b) (hw : b ∈ s.wk → b ∈ t.wk) (he : b ∈ s.ep → b ∈ t.ep) : Lo k t b := by
  have e0 := hs.hd a b ho
  have e1 := ht.hd a b (p.or ho)
  have hb := hs.bd (hs.mem ho)
  intro i i0 i1
  rw [e1, ← e0] at i1
  rw [e1, ← e0]
  rcases h i i0 i1 with d | ⟨d1, d2, d3⟩ | ⟨d1, d2⟩
  · exact Or.inl (p.cl _ (by omega) (by omega) d)
  · exact Or.inr (Or.inl ⟨d1, d2, hw d3⟩)
  · exact Or.inr (Or.inr ⟨d1, he d2⟩)
end

end Go.Proofs.YtakofbkmhmcnfabGreat

/- A small cut, of lists: what was brought is looked at. -/
namespace Go.Proofs.YtakofbkmhmcnfabGreat
open Go.RowKit W Kp Stl

theorem Tile.next {L : Int → Int} {hi : Int} : ∀ {l : List Int} {a : Int}, Tile L hi a l → ∀ x ∈ l, x + (1 + pf (L x)) ∈ l ∨ x + (1 + pf (L x)) = hi
  | [], _, _, x, hx => by cases hx
  | y :: l, a, h, x, hx => by
    obtain ⟨e, _, _, ht⟩ := h
    rcases List.mem_cons.1 hx with d | d
    · subst d
      subst e
      match l, ht with
      | [], ht => exact Or.inr ht
      | y' :: l', ht =>
        obtain ⟨e', _⟩ := ht
        exact Or.inl (by rw [← e']; simp)
    · exact (Tile.next ht x d).imp (List.mem_cons_of_mem _) id

theorem tile_behind {L : Int → Int} {hi : Int} : ∀ {l m : List Int} {a x y : Int}, Tile L hi a (l ++ m) → x ∈ l → y ∈ m → x < y
  | [], _, _, _, _, _, hx, _ => by cases hx
  | u :: l, m, a, x, y, h, hx, hy => by
    obtain ⟨e, _, _, ht⟩ := h
    have hp := pf_bd (L a)
    rcases List.mem_cons.1 hx with d | d
    · have := (ht.mem y (List.mem_append_right l hy)).1
      omega
    · exact tile_behind ht d hy

/-- How far a cut is: D holds the old things that were looked at. -/
structure LI (k : Ck) (z : C0) (s : Cs) (H D : List Int) : Prop where
  mi : MI k z s H
  bo : s.nx ∈ H ∨ s.nx = (k.N : Int) + s.g
  lo : ∀ b ∈ H, b < s.nx → Lo k s b
  ld : ∀ b ∈ D, Lo k s b
  dg : ∀ b ∈ D, b ∈ z.G

section
variable {k : Ck} {z : C0} {s t : Cs} {H D : List Int}

/-- One more that was brought. -/
theorem LI.lb1 (h : LI k z s H D) (hn : hB k.N s.g s.nx = true) : ∃ H', LI k z { k.lk s s.nx with nx := s.nx + (1 + pf (k.ld s s.nx)) } H' D ∧ Pg k s { k.lk s s.nx with nx := s.nx + (1 + pf (k.ld s s.nx)) } ∧ ∃ H2, H' = H ++ H2 := by
  have hb := hB_yes hn
  have hnx : s.nx ∈ H := h.bo.resolve_right (by omega)
  obtain ⟨a, ho⟩ := h.mi.from (List.mem_append_right z.G hnx)
  have hbd := h.mi.bd (List.mem_append_right z.G hnx)
  have hpf := pf_bd (k.ld s s.nx)
  have hg := h.mi.ci.hg
  obtain ⟨H', m1, m2, ⟨H2, m3⟩, m4, m5, m6⟩ := h.mi.lk ho
  obtain ⟨x1, x2⟩ := lk_nx k s s.nx
  have e0 := h.mi.hd a _ ho
  have e1 := m1.hd a _ (m2.or ho)
  have mt := m1.turn (k.lk s s.nx).wk (k.lk s s.nx).ep (k.lk s s.nx).rs (s.nx + (1 + pf (k.ld s s.nx))) m1.ci.wk0 m1.ci.ep0 (by omega) (by omega)
  have hlo := h.mi.hlo _ hnx
  have m7 : ∀ b ∈ H2, s.nx < b := fun b d => tile_behind (by have := m1.full.to; rw [m3, ← List.append_assoc] at this; exact this) (List.mem_append_right z.G hnx) d
  have hsub : ∀ b, b ∈ H → b ∈ H' := fun b d => by rw [m3]; exact List.mem_append_left _ d
  have keep : ∀ b, (∃ a, k.or z s a b) → Lo k s b → Lo k { k.lk s s.nx with nx := s.nx + (1 + pf (k.ld s s.nx)) } b := fun b ⟨a, o⟩ l => by
    have l2 : Lo k (k.lk s s.nx) b := Lo.go l h.mi m1 m2 o (m5 b) (m6 b)
    exact l2
  refine ⟨H', ⟨mt, ?_, fun b d lt => ?_, fun b d => keep b ⟨b, Or.inl ⟨rfl, h.dg b d⟩⟩ (h.ld b d), h.dg⟩, ⟨m2.f, m2.g, m2.cl⟩, H2, m3⟩
  · have nn := Tile.next m1.full.to s.nx (List.mem_append_right z.G (hsub _ hnx))
    have e2 : Proofs.YtakofbkmhmcnfabGreat.ld k.N k.y (k.lk s s.nx).g (k.lk s s.nx).ws s.nx = k.ld s s.nx := e1.trans e0.symm
    rw [e2] at nn
    rcases nn with d | d
    · rcases List.mem_append.1 d with d | d
      · have := h.mi.zh _ d
        omega
      · exact Or.inl d
    · exact Or.inr d
  · dsimp only at lt
    by_cases eb : b = s.nx
    · subst eb
      exact m4
    · by_cases lb : b < s.nx
      · have hbH : b ∈ H := by
          rw [m3] at d
          rcases List.mem_append.1 d with d | d
          · exact d
          · exact absurd (m7 b d) (by omega)
        exact keep b (h.mi.from (List.mem_append_right z.G hbH)) (h.lo b hbH lb)
      · have ap := m1.full.to.apart s.nx (List.mem_append_right z.G (hsub _ hnx)) b (List.mem_append_right z.G d) (by omega)
        have e2 : Proofs.YtakofbkmhmcnfabGreat.ld k.N k.y (k.lk s s.nx).g (k.lk s s.nx).ws s.nx = k.ld s s.nx := e1.trans e0.symm
        rw [e2] at ap
        omega
/-- All that was brought. -/
theorem LI.lb : ∀ (n : Nat) {s : Cs} {H : List Int}, LI k z s H D → ∃ H', LI k z (k.lb n s) H' D ∧ Pg k s (k.lb n s) ∧ (∃ H2, H' = H ++ H2) ∧ (((k.N : Int) + k.O - s.nx).toNat < n → hB k.N (k.lb n s).g (k.lb n s).nx = false)
  | 0, s, H, h => ⟨H, h, Pg.refl _ _, ⟨[], by simp⟩, fun e => absurd e (by omega)⟩
  | n + 1, s, H, h => by
    unfold Ck.lb
    cases hn : hB k.N s.g s.nx
    · rw [if_neg (by simp)]
      exact ⟨H, h, Pg.refl _ _, ⟨[], by simp⟩, fun _ => hn⟩
    · rw [if_pos rfl]
      obtain ⟨H1, m1, m2, ⟨H2, m3⟩⟩ := h.lb1 hn
      obtain ⟨H3, j1, j2, ⟨H4, j3⟩, j4⟩ := LI.lb n m1
      refine ⟨H3, j1, m2.trans j2, ⟨H2 ++ H4, by rw [j3, m3, List.append_assoc]⟩, fun e => j4 ?_⟩
      have hpf := pf_bd (k.ld s s.nx)
      have hb := hB_yes hn
      have hg := h.mi.ci.hg
      dsimp only
      omega
end

end Go.Proofs.YtakofbkmhmcnfabGreat

/- A small cut, of lists: what a word leads to is brought. -/
namespace Go.Proofs.YtakofbkmhmcnfabGreat
open Go.RowKit W Kp Stl

section
variable {k : Ck} {z : C0} {s t : Cs} {H D : List Int}

/-- Things that are looked at no more: what they are stays. -/
theorem LI.lift (h : LI k z s H D) {K : List Int} (ht : MI k z t K) (p : Pg k s t) (hw : t.wk = s.wk) (he : t.ep = s.ep) (hn : t.nx = s.nx) (hb : t.nx ∈ K ∨ t.nx = (k.N : Int) + t.g) (hK : ∀ b ∈ K, b < t.nx → b ∈ H) : LI k z t K D :=
  ⟨ht, hb, fun b d lt => by
    have hbH := hK b d lt
    obtain ⟨a, o⟩ := h.mi.from (List.mem_append_right z.G hbH)
    exact Lo.go (h.lo b hbH (by rw [← hn]; exact lt)) h.mi ht p o (fun c => by rw [hw]; exact c) (fun c => by rw [he]; exact c), fun b d => Lo.go (h.ld b d) h.mi ht p (Or.inl ⟨rfl, h.dg b d⟩) (fun c => by rw [hw]; exact c) (fun c => by rw [he]; exact c), h.dg⟩
theorem LI.nxle (h : LI k z s H D) : s.nx ≤ (k.N : Int) + s.g := by
  rcases h.bo with d | d
  · have := (h.mi.bdH d).2
    omega
  · omega
theorem LI.cp (h : LI k z s H D) {a : Int} (ha : a ∈ k.T) (hf : s.f a = -1) : LI k z (k.cp s a) (H ++ [((k.N + s.g : Nat) : Int)]) D ∧ Pg k s (k.cp s a) := by
  obtain ⟨m1, m2, _⟩ := h.mi.cp ha hf
  have hle := h.nxle
  refine ⟨h.lift m1 m2 rfl rfl rfl ?_ (fun b d lt => ?_), m2⟩
  · show s.nx ∈ _ ∨ _
    rcases h.bo with d | d
    · exact Or.inl (List.mem_append_left _ d)
    · exact Or.inl (List.mem_append_right _ (by rw [d]; simp))
  · have lt2 : b < s.nx := lt
    rcases List.mem_append.1 d with d | d
    · exact d
    · rw [List.mem_singleton] at d
      omega
/-- What a word leads to is brought; the word is told anew. -/
theorem LI.br (h : LI k z s H D) (x : Int) : ∃ H', LI k z (k.br s x).2 H' D ∧ Pg k s (k.br s x).2 ∧ (∃ H2, H' = H ++ H2) ∧ k.yg (k.br s x).1 = false ∧ (∀ x0, k.ml s x0 x → k.ml (k.br s x).2 x0 (k.br s x).1) := by
  obtain ⟨_, _, _, m3, _, m5, _⟩ := h.mi.br x
  cases hls : k.ls s x
  · have e : (k.br s x).2 = s := by
      unfold Ck.br
      rw [hls]
      rfl
    rw [e] at m5 ⊢
    exact ⟨H, h, Pg.refl _ _, ⟨[], by simp⟩, m3, m5⟩
  · have e : (k.br s x).2 = k.cp s (aV x) := by
      unfold Ck.br
      rw [if_pos hls]
    have hl2 := hls
    unfold Ck.ls at hl2
    rw [Bool.and_eq_true] at hl2
    have h1 := hl2.1
    unfold Ck.yg at h1
    rw [Bool.and_eq_true] at h1
    obtain ⟨j1, j2⟩ := h.cp (a := aV x) (by simpa using h1.2) (by simpa using hl2.2)
    rw [e] at m5 ⊢
    exact ⟨_, j1, j2, ⟨_, rfl⟩, m3, m5⟩
/-- A field is kept. -/
theorem LI.kf (h : LI k z s H D) {a b i : Int} (ho : k.or z s a b) (i0 : 0 ≤ i) (i1 : i < pf (k.l0 z a)) : ∃ H', LI k z (k.kf s (b + 1 + i)) H' D ∧ Pg k s (k.kf s (b + 1 + i)) ∧ k.yg (k.ld (k.kf s (b + 1 + i)) (b + 1 + i)) = false ∧ ∃ H2, H' = H ++ H2 := by
  obtain ⟨H', m1, m2, m4, m3, m5⟩ := h.br (k.ld s (b + 1 + i))
  obtain ⟨s1, s2, s3⟩ := m1.mi.st (m2.or ho) i0 i1 (m5 _ (h.mi.fd a b ho i i0 i1))
  have p := Pg.st (a := b + 1 + i) m1.mi.ci m3
  refine ⟨H', m1.lift s1 p rfl rfl rfl m1.bo (fun b d _ => d), m2.trans p, ?_, m4⟩
  unfold Ck.kf
  rw [s2]
  exact m3
end

end Go.Proofs.YtakofbkmhmcnfabGreat

/- A small cut, of lists: roots are kept. -/
namespace Go.Proofs.YtakofbkmhmcnfabGreat
open Go.RowKit W Kp Stl

section
variable {k : Ck} {z : C0} {s t : Cs} {H D : List Int}

theorem br_rs (k : Ck) (s : Cs) (x : Int) : (k.br s x).2.rs = s.rs ∧ (k.br s x).2.wk = s.wk ∧ (k.br s x).2.ep = s.ep ∧ (k.br s x).2.nx = s.nx := by
  unfold Ck.br
  split <;> exact ⟨rfl, rfl, rfl, rfl⟩
theorem LI.roots (h : LI k z s H D) (rs : List Int) : LI k z { s with rs := rs } H D :=
  h.lift (h.mi.turn s.wk s.ep rs s.nx h.mi.ci.wk0 h.mi.ci.ep0 h.mi.ci.nx0 h.mi.ci.nx1) (Pg.turn k s s.wk s.ep rs s.nx) rfl rfl rfl h.bo (fun _ d _ => d)
/-- Roots are kept: behind it none of them leads to a young thing. -/
theorem LI.kr (h : LI k z s H D) : ∀ n : Nat, n ≤ s.rs.length → ∃ H', LI k z (k.kr s n) H' D ∧ Pg k s (k.kr s n) ∧ (∃ H2, H' = H ++ H2) ∧ (k.kr s n).rs.length = s.rs.length ∧ (∀ i, i < n → k.yg ((k.kr s n).rs.getD i 0) = false) ∧ (∀ i, n ≤ i → (k.kr s n).rs.getD i 0 = s.rs.getD i 0) ∧ ∀ i, i < n → k.ml (k.kr s n) (s.rs.getD i 0) ((k.kr s n).rs.getD i 0)
  | 0, _ => ⟨H, h, Pg.refl _ _, ⟨[], by simp⟩, rfl, fun i hi => by omega, fun _ _ => rfl, fun i hi => by omega⟩
  | n + 1, hn => by
    obtain ⟨H1, m1, m2, ⟨H2, m3⟩, m4, m5, m6, m7⟩ := LI.kr h n (by omega)
    obtain ⟨H3, j1, j2, ⟨H4, j3⟩, j4, j5⟩ := m1.br ((k.kr s n).rs.getD n 0)
    obtain ⟨r1, _⟩ := br_rs k (k.kr s n) ((k.kr s n).rs.getD n 0)
    have hl : n < (k.br (k.kr s n) ((k.kr s n).rs.getD n 0)).2.rs.length := by rw [r1, m4]; omega
    have eg : ∀ i, ((k.br (k.kr s n) ((k.kr s n).rs.getD n 0)).2.rs.set n (k.br (k.kr s n) ((k.kr s n).rs.getD n 0)).1).getD i 0 = if n = i then (k.br (k.kr s n) ((k.kr s n).rs.getD n 0)).1 else (k.kr s n).rs.getD i 0 := fun i => by
      rw [getD_set _ _ _ _ hl, r1]
    have pt := Pg.turn k (k.br (k.kr s n) ((k.kr s n).rs.getD n 0)).2 (k.br (k.kr s n) ((k.kr s n).rs.getD n 0)).2.wk (k.br (k.kr s n) ((k.kr s n).rs.getD n 0)).2.ep ((k.br (k.kr s n) ((k.kr s n).rs.getD n 0)).2.rs.set n (k.br (k.kr s n) ((k.kr s n).rs.getD n 0)).1) (k.br (k.kr s n) ((k.kr s n).rs.getD n 0)).2.nx
    refine ⟨H3, j1.roots _, m2.trans (j2.trans pt), ⟨H2 ++ H4, by rw [j3, m3, List.append_assoc]⟩, ?_, fun i hi => ?_, fun i hi => ?_, fun i hi => ?_⟩
    · show (List.set _ _ _).length = _
      rw [List.length_set, r1, m4]
    · show k.yg ((List.set _ _ _).getD i 0) = false
      rw [eg]
      split
      · exact j4
      · exact m5 i (by omega)
    · show (List.set _ _ _).getD i 0 = _
      rw [eg, if_neg (by omega)]
      exact m6 i (by omega)
    · show k.ml _ _ ((List.set _ _ _).getD i 0)
      rw [eg]
      by_cases e : n = i
      · rw [if_pos e]
        subst e
        have h1 := j5 (s.rs.getD n 0) (Or.inl (m6 n (Nat.le_refl _)))
        exact h1
      · rw [if_neg e]
        exact (j2.trans pt).ml (m7 i (by omega))
end

end Go.Proofs.YtakofbkmhmcnfabGreat

/- A small cut, of lists: old things on marked cards are looked at. -/
namespace Go.Proofs.YtakofbkmhmcnfabGreat
open Go.RowKit W Kp Stl

/-- What comes behind all that stood: it begins where that ends. -/
theorem tile_more {L L' : Int → Int} {hi hi' : Int} : ∀ {l m : List Int} {a : Int}, Tile L hi a l → Tile L' hi' a (l ++ m) → (∀ x ∈ l, L' x = L x) → (hi ∈ m ∨ hi = hi') ∧ ∀ y ∈ m, hi ≤ y
  | [], m, a, h, h', _ => by
    have e : a = hi := h
    subst e
    refine ⟨?_, fun y hy => (h'.mem y hy).1⟩
    match m, h' with
    | [], h' => exact Or.inr h'
    | y :: m', h' =>
      obtain ⟨e', _⟩ := h'
      exact Or.inl (by rw [← e']; simp)
  | u :: l, m, a, h, h', he => by
    obtain ⟨e, _, _, ht⟩ := h
    obtain ⟨_, _, _, ht'⟩ := h'
    have e2 := he u (by simp)
    rw [e] at e2
    rw [e2] at ht'
    exact tile_more ht ht' (fun x hx => he x (List.mem_cons_of_mem _ hx))

section
variable {k : Ck} {z : C0} {s t : Cs} {H D : List Int}

/-- An old thing is looked at. -/
theorem LI.lk (h : LI k z s H D) {b : Int} (hb : b ∈ z.G) : ∃ H', LI k z (k.lk s b) H' (b :: D) ∧ Pg k s (k.lk s b) ∧ ∃ H2, H' = H ++ H2 := by
  have ho : k.or z s b b := Or.inl ⟨rfl, hb⟩
  obtain ⟨H', m1, m2, ⟨H2, m3⟩, m4, m5, m6⟩ := h.mi.lk ho
  obtain ⟨x1, x2⟩ := lk_nx k s b
  have tm := tile_more (l := z.G ++ H) (m := H2) h.mi.full.to (by have := m1.full.to; rw [m3, ← List.append_assoc] at this; exact this) (fun x hx => by
    obtain ⟨a, o⟩ := h.mi.from hx
    exact (m1.hd a x (m2.or o)).trans (h.mi.hd a x o).symm)
  have hle := h.nxle
  refine ⟨H', ⟨m1, ?_, fun c d lt => ?_, fun c d => ?_, fun c d => ?_⟩, m2, H2, m3⟩
  · rw [x1]
    rcases h.bo with d | d
    · exact Or.inl (by rw [m3]; exact List.mem_append_left _ d)
    · rw [d]
      exact tm.1.imp (fun e => by rw [m3]; exact List.mem_append_right _ e) id
  · rw [x1] at lt
    have hcH : c ∈ H := by
      rw [m3] at d
      rcases List.mem_append.1 d with d | d
      · exact d
      · have := tm.2 c d
        omega
    obtain ⟨a, o⟩ := h.mi.from (List.mem_append_right z.G hcH)
    exact Lo.go (h.lo c hcH lt) h.mi m1 m2 o (m5 c) (m6 c)
  · rcases List.mem_cons.1 d with d | d
    · rw [d]; exact m4
    · exact Lo.go (h.ld c d) h.mi m1 m2 (Or.inl ⟨rfl, h.dg c d⟩) (m5 c) (m6 c)
  · rcases List.mem_cons.1 d with d | d
    · rw [d]; exact hb
    · exact h.dg c d
/-- All old things on marked cards. -/
theorem LI.lm (c : Int) (M : List Int) (hz : Tile (k.l0 z) ((k.N : Int) + z.g) k.N z.G) : ∀ (l : List Int) {s : Cs} {H D : List Int}, LI k z s H D → (∀ a ∈ l, a ∈ z.G ∨ (k.N : Int) + z.g ≤ a) → ∃ H' D', LI k z (l.foldl (k.lm1 ((k.N : Int) + z.g) c M) s) H' D' ∧ Pg k s (l.foldl (k.lm1 ((k.N : Int) + z.g) c M) s) ∧ (∃ H2, H' = H ++ H2) ∧ (∀ a ∈ D, a ∈ D') ∧ ∀ a ∈ l, a ∈ z.G → (cB k.N c a && M.contains (cN k.N a)) = true → a ∈ D'
  | [], s, H, D, h, _ => ⟨H, D, h, Pg.refl _ _, ⟨[], by simp⟩, fun _ d => d, fun a ha => by cases ha⟩
  | b :: l, s, H, D, h, hl => by
    rw [List.foldl_cons]
    have hpf := pf_bd (k.ld s b)
    by_cases hbG : b ∈ z.G ∧ (cB k.N c b && M.contains (cN k.N b)) = true
    · have e0 := h.mi.hd b b (Or.inl ⟨rfl, hbG.1⟩)
      have hb := (hz.mem b hbG.1).2.1
      have e1 : k.lm1 ((k.N : Int) + z.g) c M s b = k.lk s b := by
        unfold Ck.lm1
        rw [if_pos (by rw [e0]; omega), if_pos hbG.2]
      rw [e1]
      obtain ⟨H1, m1, m2, ⟨H2, m3⟩⟩ := h.lk hbG.1
      obtain ⟨H3, D3, j1, j2, ⟨H4, j3⟩, j4, j5⟩ := LI.lm c M hz l m1 (fun a ha => hl a (List.mem_cons_of_mem _ ha))
      refine ⟨H3, D3, j1, m2.trans j2, ⟨H2 ++ H4, by rw [j3, m3, List.append_assoc]⟩, fun a d => j4 a (List.mem_cons_of_mem _ d), fun a ha hg hm => ?_⟩
      rcases List.mem_cons.1 ha with d | d
      · exact j4 a (by rw [d]; simp)
      · exact j5 a d hg hm
    · have e1 : k.lm1 ((k.N : Int) + z.g) c M s b = s := by
        unfold Ck.lm1
        by_cases hG : b ∈ z.G
        · split
          · rw [if_neg (fun e => hbG ⟨hG, e⟩)]
          · rfl
        · have := (hl b (by simp)).resolve_left hG
          rw [if_neg (by omega)]
      rw [e1]
      obtain ⟨H3, D3, j1, j2, j3, j4, j5⟩ := LI.lm c M hz l h (fun a ha => hl a (List.mem_cons_of_mem _ ha))
      refine ⟨H3, D3, j1, j2, j3, j4, fun a ha hg hm => ?_⟩
      rcases List.mem_cons.1 ha with d | d
      · exact absurd ⟨by rw [← d]; exact hg, by rw [← d]; exact hm⟩ hbG
      · exact j5 a d hg hm
end

end Go.Proofs.YtakofbkmhmcnfabGreat
