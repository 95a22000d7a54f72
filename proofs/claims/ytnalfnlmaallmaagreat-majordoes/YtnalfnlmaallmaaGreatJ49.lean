/- Joined: Rl11, Rl5, Mg5, Mg10, Rl6. -/
import Derived.Test.YtnalfnlmaallmaaGreatJ48
import Derived.Test.YtnalfnlmaallmaaGreatJ40
import Derived.Test.YtnalfnlmaallmaaGreatJ34
import Derived.Test.YtnalfnlmaallmaaGreatJ45
namespace Go.Proofs.YtnalfnlmaallmaaGreat
open Go.RowKit W Kp Stl
section
variable {k : Ck} {z : C0} {s t : Cs} {H D : List Int}
def Ck.vw (k : Ck) (s : Cs) (x : Int) : Int := if k.ls s x = true then 3 else k.nw s x
theorem ls_f {s t : Cs} (hf : t.f = s.f) (x : Int) : k.ls t x = k.ls s x /\ k.nw t x = k.nw s x := by
 unfold Ck.ls Ck.nw
 rw [hf]
 exact ⟨rfl, rfl⟩
def Fo (k : Ck) (s : Cs) : Prop := ∀ a ∈ k.T, s.f a ≠ -1 -> (k.N : Int) <= s.f a /\ s.f a < 1000000
theorem MI.fo (h : MI k z s H) : Fo k s := fun a ha hf => by
 have hb := h.bdH (h.fh a ha hf)
 have n1 := h.ci.hN'
 have n2 := h.ci.hO
 have n3 := h.ci.hg
 exact ⟨hb.1, by omega⟩
theorem nw_no {x : Int} (h : k.yg x = false) : k.nw s x = x := by
 unfold Ck.nw
 rw [h]
 simp
theorem nw_yes {x : Int} (h : k.yg x = true) (hf : s.f (aV x) ≠ -1) : k.nw s x = ew 3 (s.f (aV x)) := by
 unfold Ck.nw
 rw [h, if_pos (by simp [hf])]
theorem nw_yg (ci : CI k s) (fo : Fo k s) {x : Int} (h : k.ls s x = false) : k.yg (k.nw s x) = false := by
 cases c : k.yg x
 ·rw [nw_no c]
  exact c
 ·have hf : s.f (aV x) ≠ -1 := fun e => by
   unfold Ck.ls at h
   rw [c, e] at h
   simp at h
  rw [nw_yes c hf]
  obtain ⟨b1, b2⟩ := fo _ (yg_mem c) hf
  exact yg_old ci b1 b2
theorem yg3 : k.yg 3 = false := by
 unfold Ck.yg
 rw [show aB 3 = false by decide]
 rfl
theorem vw_yg (ci : CI k s) (fo : Fo k s) (x : Int) : k.yg (k.vw s x) = false := by
 unfold Ck.vw
 cases c : k.ls s x
 ·rw [if_neg (by simp)]
  exact nw_yg ci fo c
 ·rw [if_pos rfl]
  exact yg3
theorem vw_no {x : Int} (h : k.yg x = false) : k.vw s x = x := by
 unfold Ck.vw Ck.ls
 rw [h, Bool.false_and, if_neg (by simp)]
 exact nw_no h
theorem mw1_eq (k : Ck) (s : Cs) (a : Int) : k.mw1 s a = k.st s (a + 1) (k.vw s (k.ld s (a + 1))) := by
 unfold Ck.mw1 Ck.vw
 split <;> rfl
theorem stw_len (k : Ck) (s : Cs) (a x : Int) : (k.st s a x).ws.length = s.ws.length := by
 unfold Ck.st
 dsimp only
 split
 ·rw [List.length_set]
 ·rfl
theorem mw_ld (hl : s.ws.length = k.N + k.O) (hy : k.y <= k.N) (hg : s.g <= k.O) (hv : ∀ x, k.yg (k.vw s x) = false) : ∀ (l : List Int) (t : Cs), t.f = s.f -> t.g = s.g -> t.ws.length = s.ws.length -> (∀ c ∈ l, iB k.N k.y s.g (c + 1) = true) ->
  (l.foldl k.mw1 t).f = s.f /\ (l.foldl k.mw1 t).g = s.g /\ (l.foldl k.mw1 t).ws.length = s.ws.length /\ (l.foldl k.mw1 t).ep = t.ep /\ (l.foldl k.mw1 t).rs = t.rs /\ ∀ p, k.ld (l.foldl k.mw1 t) p = if p - 1 ∈ l then k.vw s (k.ld t p) else k.ld t p
 | [], t, h1, h2, h3, _ => ⟨h1, h2, h3, rfl, rfl, fun p => by simp⟩
 | c :: l, t, h1, h2, h3, hi => by
  have vt : ∀ x, k.vw t x = k.vw s x := fun x => by
   unfold Ck.vw
   rw [(ls_f h1 x).1, (ls_f h1 x).2]
  have hst := Ck.ld_st (k := k) (s := t) (h3.trans hl) hy (by rw [h2]; exact hg) (c + 1) (k.vw t (k.ld t (c + 1)))
  have hc := hi c (by simp)
  rw [List.foldl_cons, mw1_eq]
  have l3 : (k.st t (c + 1) (k.vw t (k.ld t (c + 1)))).ws.length = s.ws.length := (stw_len _ _ _ _).trans h3
  obtain ⟨i1, i2, i3, i4, i5, i6⟩ := mw_ld hl hy hg hv l (k.st t (c + 1) (k.vw t (k.ld t (c + 1)))) h1 h2 l3 (fun x hx => hi x (List.mem_cons_of_mem _ hx))
  refine ⟨i1, i2, i3, i4, i5, fun p => ?_⟩
  rw [i6 p]
  have hp := hst p
  rw [h2] at hp
  by_cases e : p = c + 1
  ·have e2 : p - 1 ∈ c :: l := by rw [e]; simp
   rw [if_pos ⟨e, hc⟩] at hp
   rw [hp, if_pos e2, vt, e]
   split
   ·exact vw_no (hv _)
   ·rfl
  ·have e2 : (p - 1 ∈ c :: l) ↔ p - 1 ∈ l := by
    rw [List.mem_cons]
    exact ⟨fun d => d.resolve_left (fun q => e (by omega)), Or.inr⟩
   rw [if_neg (fun q => e q.1)] at hp
   rw [hp]
   by_cases d : p - 1 ∈ l
   ·rw [if_pos d, if_pos (e2.2 d)]
   ·rw [if_neg d, if_neg (fun q => d (e2.1 q))]
theorem be_ld (hy : k.y <= k.N) : ∀ (l : List Int) (t : Cs), t.ws.length = k.N + k.O -> t.g <= k.O -> (∀ c ∈ l, iB k.N k.y t.g (c + 1) = true /\ iB k.N k.y t.g (c + 2) = true) ->
  (l.foldl k.be1 t).rs = t.rs /\ (l.foldl k.be1 t).g = t.g /\ ∀ p, k.ld (l.foldl k.be1 t) p = if p - 1 ∈ l \/ p - 2 ∈ l then 3 else k.ld t p
 | [], t, _, _, _ => ⟨rfl, rfl, fun p => by simp⟩
 | c :: l, t, h1, h2, hi => by
  obtain ⟨c1, c2⟩ := hi c (by simp)
  have s1 := Ck.ld_st (k := k) (s := t) h1 hy h2 (c + 1) 3
  have l1 : (k.st t (c + 1) 3).ws.length = k.N + k.O := (stw_len _ _ _ _).trans h1
  have s2 := Ck.ld_st (k := k) (s := k.st t (c + 1) 3) l1 hy h2 (c + 2) 3
  have l2 : (k.st (k.st t (c + 1) 3) (c + 2) 3).ws.length = k.N + k.O := (stw_len _ _ _ _).trans l1
  rw [List.foldl_cons]
  obtain ⟨i1, i2, i3⟩ := be_ld hy l (k.st (k.st t (c + 1) 3) (c + 2) 3) l2 h2 (fun x hx => hi x (List.mem_cons_of_mem _ hx))
  refine ⟨i1, i2, fun p => ?_⟩
  have e0 : k.be1 t c = k.st (k.st t (c + 1) 3) (c + 2) 3 := rfl
  rw [e0, i3 p, s2 p, s1 p]
  have g1 : (k.st t (c + 1) 3).g = t.g := rfl
  rw [g1]
  by_cases d : p - 1 ∈ l \/ p - 2 ∈ l
  ·rw [if_pos d, if_pos (d.imp (List.mem_cons_of_mem _) (List.mem_cons_of_mem _))]
  ·rw [if_neg d]
   by_cases e2 : p = c + 2
   ·rw [if_pos ⟨e2, c2⟩, if_pos (Or.inr (by rw [e2]; simp))]
   ·rw [if_neg (fun q => e2 q.1)]
    by_cases e1 : p = c + 1
    ·rw [if_pos ⟨e1, c1⟩, if_pos (Or.inl (by rw [e1]; simp))]
    ·rw [if_neg (fun q => e1 q.1), if_neg]
     rintro (q | q)
     ·rcases List.mem_cons.1 q with q | q
      ·omega
      ·exact d (Or.inl q)
     ·rcases List.mem_cons.1 q with q | q
      ·omega
      ·exact d (Or.inr q)
theorem nw_ml (ci : CI k s) (fo : Fo k s) {x0 x : Int} (h : k.ml s x0 x) : k.nw s x = k.nw s x0 := by
 rcases h with e | ⟨y1, y2, y3⟩
 ·rw [e]
 ·rw [nw_yes y1 y2, y3]
  obtain ⟨b1, b2⟩ := fo _ (yg_mem y1) y2
  exact nw_no (yg_old ci b1 b2)
theorem ml_nw {x0 x : Int} (h : k.ml s x0 x) (hy : k.yg x = false) : x = k.nw s x0 := by
 rcases h with e | ⟨y1, y2, y3⟩
 ·rw [e] at hy
  rw [nw_no hy, e]
 ·rw [nw_yes y1 y2, y3]
theorem words_end (li : LI k z s H D) (w : WE k z s H) {a b i : Int} (o : k.or z s a b) (i0 : 0 <= i) (i1 : i < pf (k.l0 z a)) :
  k.ld (k.be (k.mw s s.wk) (k.mw s s.wk).ep) (b + 1 + i) = if b ∈ s.ep then 3 else if b ∈ s.wk /\ i = 0 then k.vw s (k.ld s (b + 1 + i)) else k.ld s (b + 1 + i) := by
 have ci := li.mi.ci
 have fo := li.mi.fo
 have full := li.mi.full
 have hb := li.mi.mem o
 have e0 := li.mi.hd a b o
 have hbd := full.to.mem b hb
 have i2 : i < pf (k.ld s b) := by rw [e0]; exact i1
 have wi : ∀ c ∈ s.wk, iB k.N k.y s.g (c + 1) = true := fun c hc => by
  obtain ⟨q1, q2⟩ := w.wk c hc
  have q3 := li.mi.bd q1
  have := pf_two q3.2.2 (Or.inr (Or.inl q2))
  exact iB_o (by omega) (by omega)
 have ei : ∀ c ∈ s.ep, iB k.N k.y s.g (c + 1) = true /\ iB k.N k.y s.g (c + 2) = true := fun c hc => by
  obtain ⟨q1, q2⟩ := w.ep c hc
  have q3 := li.mi.bd q1
  have := pf_two q3.2.2 (Or.inr (Or.inr q2))
  exact ⟨iB_o (by omega) (by omega), iB_o (by omega) (by omega)⟩
 obtain ⟨m1, m2, m3, m4, _, m6⟩ := mw_ld (s := s) ci.len ci.hy ci.hg (vw_yg ci fo) s.wk s rfl rfl rfl wi
 have m4 : (k.mw s s.wk).ep = s.ep := m4
 have m2 : (k.mw s s.wk).g = s.g := m2
 have m3 : (k.mw s s.wk).ws.length = s.ws.length := m3
 obtain ⟨_, _, b3⟩ := be_ld ci.hy s.ep (k.mw s s.wk) (by rw [m3]; exact ci.len) (by rw [m2]; exact ci.hg) (by rw [m2]; exact ei)
 have b3 : ∀ p, k.ld (k.be (k.mw s s.wk) s.ep) p = if p - 1 ∈ s.ep \/ p - 2 ∈ s.ep then 3 else k.ld (k.mw s s.wk) p := b3
 have m6 : ∀ p, k.ld (k.mw s s.wk) p = if p - 1 ∈ s.wk then k.vw s (k.ld s p) else k.ld s p := m6
 rw [m4, b3, m6]
 -- a beginning within is no beginning
 have noF : ∀ j, 0 <= j -> j < pf (k.ld s b) -> b + 1 + j ∉ z.G ++ H := fun j j0 j1 => full.to.field hb j0 j1
 have q1 : ∀ l : List Int, (∀ c ∈ l, c ∈ z.G ++ H) -> ((b + 1 + i) - 1 ∈ l ↔ (b ∈ l /\ i = 0)) := fun l hl => by
  constructor
  ·intro d
   by_cases e : i = 0
   ·subst e
    have : b + 1 + 0 - 1 = b := by omega
    rw [this] at d
    exact ⟨d, rfl⟩
   ·exfalso
    have : b + 1 + i - 1 = b + 1 + (i - 1) := by omega
    rw [this] at d
    exact noF (i - 1) (by omega) (by omega) (hl _ d)
  ·rintro ⟨d, e⟩
   subst e
   have : b + 1 + 0 - 1 = b := by omega
   rw [this]
   exact d
 have q2 : (b + 1 + i) - 2 ∈ s.ep ↔ (b ∈ s.ep /\ i = 1) := by
  constructor
  ·intro d
   obtain ⟨r1, r2⟩ := w.ep _ d
   by_cases e : i = 1
   ·subst e
    have : b + 1 + 1 - 2 = b := by omega
    rw [this] at d
    exact ⟨d, rfl⟩
   ·exfalso
    by_cases e2 : i = 0
    ·subst e2
     have r3 := li.mi.bd r1
     have r4 := pf_two r3.2.2 (Or.inr (Or.inr r2))
     have r5 := full.to.apart _ r1 b hb (by omega)
     have r5 : b + 1 + 0 - 2 + (1 + pf (k.ld s (b + 1 + 0 - 2))) <= b := r5
     omega
    ·have : b + 1 + i - 2 = b + 1 + (i - 2) := by omega
     rw [this] at r1
     exact noF (i - 2) (by omega) (by omega) r1
  ·rintro ⟨d, e⟩
   subst e
   have : b + 1 + 1 - 2 = b := by omega
   rw [this]
   exact d
 have hep := q1 s.ep (fun c hc => (w.ep c hc).1)
 have hwk := q1 s.wk (fun c hc => (w.wk c hc).1)
 by_cases c : b ∈ s.ep
 ·have f2 := pf_two hbd.2.2 (Or.inr (Or.inr (w.ep b c).2))
  have f2 : pf (k.ld s b) = 2 := f2
  rw [if_pos c, if_pos]
  rcases (show i = 0 \/ i = 1 by omega) with e | e
  ·exact Or.inl (hep.2 ⟨c, e⟩)
  ·exact Or.inr (q2.2 ⟨c, e⟩)
 ·rw [if_neg c, if_neg (fun q => q.elim (fun q => c (hep.1 q).1) (fun q => c (q2.1 q).1))]
  by_cases d : b ∈ s.wk /\ i = 0
  ·rw [if_pos d, if_pos (hwk.2 d)]
  ·rw [if_neg d, if_neg (fun q => d (hwk.1 q))]
theorem head_end (li : LI k z s H D) (w : WE k z s H) {a b : Int} (o : k.or z s a b) : k.ld (k.be (k.mw s s.wk) (k.mw s s.wk).ep) b = k.l0 z a /\ (k.be (k.mw s s.wk) (k.mw s s.wk).ep).rs = s.rs := by
 have ci := li.mi.ci
 have fo := li.mi.fo
 have full := li.mi.full
 have hb := li.mi.mem o
 have e0 := li.mi.hd a b o
 have wi : ∀ c ∈ s.wk, iB k.N k.y s.g (c + 1) = true := fun c hc => by
  obtain ⟨q1, q2⟩ := w.wk c hc
  have q3 := li.mi.bd q1
  have := pf_two q3.2.2 (Or.inr (Or.inl q2))
  exact iB_o (by omega) (by omega)
 have ei : ∀ c ∈ s.ep, iB k.N k.y s.g (c + 1) = true /\ iB k.N k.y s.g (c + 2) = true := fun c hc => by
  obtain ⟨q1, q2⟩ := w.ep c hc
  have q3 := li.mi.bd q1
  have := pf_two q3.2.2 (Or.inr (Or.inr q2))
  exact ⟨iB_o (by omega) (by omega), iB_o (by omega) (by omega)⟩
 obtain ⟨m1, m2, m3, m4, m5, m6⟩ := mw_ld (s := s) ci.len ci.hy ci.hg (vw_yg ci fo) s.wk s rfl rfl rfl wi
 have m4 : (k.mw s s.wk).ep = s.ep := m4
 have m2 : (k.mw s s.wk).g = s.g := m2
 have m3 : (k.mw s s.wk).ws.length = s.ws.length := m3
 have m5 : (k.mw s s.wk).rs = s.rs := m5
 obtain ⟨b1, _, b3⟩ := be_ld ci.hy s.ep (k.mw s s.wk) (by rw [m3]; exact ci.len) (by rw [m2]; exact ci.hg) (by rw [m2]; exact ei)
 have b1 : (k.be (k.mw s s.wk) s.ep).rs = (k.mw s s.wk).rs := b1
 have b3 : ∀ p, k.ld (k.be (k.mw s s.wk) s.ep) p = if p - 1 ∈ s.ep \/ p - 2 ∈ s.ep then 3 else k.ld (k.mw s s.wk) p := b3
 have m6 : ∀ p, k.ld (k.mw s s.wk) p = if p - 1 ∈ s.wk then k.vw s (k.ld s p) else k.ld s p := m6
 have no : ∀ c, c ∈ z.G ++ H -> pf (k.ld s c) = 2 -> ∀ d : Int, (d = 1 \/ d = 2) -> b - d ≠ c := fun c hc f2 d hd e => by
  have r5 := full.to.apart c hc b hb (by omega)
  have r5 : c + (1 + pf (k.ld s c)) <= b := r5
  omega
 rw [m4, b3, m6]
 refine ⟨?_, b1.trans m5⟩
 rw [if_neg, if_neg, e0]
 ·intro q
  obtain ⟨r1, r2⟩ := w.wk _ q
  exact no _ r1 (pf_two (li.mi.bd r1).2.2 (Or.inr (Or.inl r2))) 1 (Or.inl rfl) rfl
 ·rintro (q | q)
  ·obtain ⟨r1, r2⟩ := w.ep _ q
   exact no _ r1 (pf_two (li.mi.bd r1).2.2 (Or.inr (Or.inr r2))) 1 (Or.inl rfl) rfl
  ·obtain ⟨r1, r2⟩ := w.ep _ q
   exact no _ r1 (pf_two (li.mi.bd r1).2.2 (Or.inr (Or.inr r2))) 2 (Or.inr rfl) rfl
end
end Go.Proofs.YtnalfnlmaallmaaGreat

namespace Go.Proofs.YtnalfnlmaallmaaGreat
open Go.RowKit W Kp Stl
theorem cuT_len {L : List Bool} {i : Nat} {t : Tw1} (hL : L.getD i false = true) (h2 : t.1 = 3 \/ t.1 = 4 -> t.2.1.length = 2) : (cuT L i t).2.1.length = t.2.1.length /\ (cuT L i t).1 = t.1 /\ (cuT L i t).2.2 = (true, t.2.2.2) := by
 unfold cuT
 rw [if_pos hL]
 refine ⟨?_, rfl, rfl⟩
 dsimp only
 split
 ·rename_i c
  rw [h2 (Or.inr c.1)]
  rfl
 ·split
  ·rename_i c
   rw [h2 (Or.inl c.1)]
   rfl
  ·rfl
theorem cuT_no {L : List Bool} {i : Nat} {t : Tw1} (hL : L.getD i false = false) : cuT L i t = (t.1, [], t.2.2.1, true) := by
 unfold cuT
 rw [hL, if_neg (by simp)]
theorem cuT_get {L : List Bool} {i : Nat} {t : Tw1} (hL : L.getD i false = true) (h2 : t.1 = 3 \/ t.1 = 4 -> t.2.1.length = 2) {k : Nat} (hk : k < t.2.1.length) :
    (cuT L i t).2.1.getD k (0, 0) = if ((t.1 = 3 \/ t.1 = 4) /\ inS L (t.2.1.getD 0 (0, 0)) = false) /\ (k = 0 \/ (t.1 = 4 /\ k = 1)) then (2, 0) else t.2.1.getD k (0, 0) := by
  unfold cuT
  rw [if_pos hL]
  dsimp only
  by_cases c4 : t.1 = 4 /\ inS L (t.2.1.getD 0 (0, 0)) = false
  · rw [if_pos c4, if_pos ⟨⟨Or.inr c4.1, c4.2⟩, by have := h2 (Or.inr c4.1); have : k = 0 \/ k = 1 := by omega
                                                   exact this.imp id (fun e => ⟨c4.1, e⟩)⟩]
    have := h2 (Or.inr c4.1)
    rcases (show k = 0 \/ k = 1 by omega) with e | e <;> subst e <;> rfl
  · rw [if_neg c4]
    by_cases c3 : t.1 = 3 /\ inS L (t.2.1.getD 0 (0, 0)) = false
    · rw [if_pos c3]
      have := h2 (Or.inl c3.1)
      rcases (show k = 0 \/ k = 1 by omega) with e | e
      · subst e
        rw [if_pos ⟨⟨Or.inl c3.1, c3.2⟩, Or.inl rfl⟩]
        rfl
      · subst e
        rw [if_neg (fun q => by
          rcases q.2 with d | d
          · omega
          · have := c3.1
            omega)]
        rfl
    · rw [if_neg c3, if_neg (fun q => q.1.1.elim (fun e => c3 ⟨e, q.1.2⟩) (fun e => c4 ⟨e, q.1.2⟩))]
structure Cutd (a : Wc) (S : Ww) (W : Wrs) (m : Nat -> Int) (B L : List Bool) (C : List En) (S' : Ww) (m' : Nat -> Int) (G' : List Int) : Prop where
  kv : KInv a S'.s [] G'
  ok : Sok_ W.T L
  cl : Cls W.T W.wt (Ls_ L)
  up : ∀ i, Ls_ B i -> Ls_ L i
  rr : ∀ v ∈ W.rs, v.1 = 3 -> Ls_ L v.2.toNat
  cc : ∀ e ∈ C, e ∈ W.rg /\ Ls_ L e.2.toNat
  rs : S'.s.rs = W.rs.map (wv m')
  pl : ∀ i, Ls_ L i -> m' i ∈ G'
  inj : ∀ i j, Ls_ L i -> Ls_ L j -> m' i = m' j -> i = j
  sur : ∀ v ∈ G', ∃ i, Ls_ L i /\ m' i = v
  hd : ∀ i, Ls_ L i -> ld a.N S'.s.y S'.s.g S'.s.ws (m' i) = ld a.N S.s.y S.s.g S.s.ws (m i)
  fd : ∀ i, Ls_ L i -> ∀ k : Nat, k < (W.T.getD i t0).2.1.length -> ld a.N S'.s.y S'.s.g S'.s.ws (m' i + 1 + k) = wv m' ((cuT L i (W.T.getD i t0)).2.1.getD k (0, 0))
  rg : S'.r = (W.rg.filter (fun e => isd B e.2 && isd L e.1)).map (we m')
  wt : S'.q = ((W.wt ++ C).filter (fun e => isd L e.1)).map (we m')
section
variable {a : Wc} {S S' : Ww} {W : Wrs} {m m' : Nat -> Int} {Y G G' : List Int} {B L : List Bool} {C : List En}
theorem inS_iff {L : List Bool} {v : Int × Int} (h3 : v.1 = 3) : inS L v = L.getD v.2.toNat false := by
 unfold inS
 rw [h3]
 rfl
theorem inS_o {L : List Bool} {v : Int × Int} (h3 : v.1 ≠ 3) : inS L v = true := by
 unfold inS
 have : (v.1 == 3) = false := by simpa using h3
 rw [this]
 rfl
theorem Rl.led (h : Rl a S W m Y G) (ok : Sok_ W.T L) (cl : Cls W.T W.wt (Ls_ L)) {i : Nat} (hi : Ls_ L i) {k : Nat} (hk : k < (W.T.getD i t0).2.1.length) (h3 : ((cuT L i (W.T.getD i t0)).2.1.getD k (0, 0)).1 = 3) : Ls_ L ((cuT L i (W.T.getD i t0)).2.1.getD k (0, 0)).2.toNat := by
 have al := ok.al i hi
 have h2 : (W.T.getD i t0).1 = 3 \/ (W.T.getD i t0).1 = 4 -> (W.T.getD i t0).2.1.length = 2 := fun c => h.two al (Or.inr c)
 rw [cuT_get hi h2 hk] at h3 ⊢
 split at h3
 ·exact absurd h3 (by decide)
 ·rename_i c
  rw [if_neg c]
  have hmem : (W.T.getD i t0).2.1.getD k (0, 0) ∈ (W.T.getD i t0).2.1 := getD_in hk
  have cases5 := hc_yes _ _ (h.hd i al).1
  by_cases k12 : (W.T.getD i t0).1 = 1 \/ (W.T.getD i t0).1 = 2
  ·exact cl i al.1 hi _ (Or.inl ⟨k12, hmem⟩) h3
  by_cases k3 : (W.T.getD i t0).1 = 3
  ·have l2 := h2 (Or.inl k3)
   rcases (show k = 0 \/ k = 1 by omega) with e | e
   ·subst e
    have : inS L ((W.T.getD i t0).2.1.getD 0 (0, 0)) = true := by
     cases d : inS L ((W.T.getD i t0).2.1.getD 0 (0, 0))
     ·exact absurd ⟨⟨Or.inl k3, d⟩, Or.inl rfl⟩ c
     ·rfl
    exact inS_yes this h3
   ·subst e
    exact cl i al.1 hi _ (Or.inr (Or.inl ⟨k3, rfl⟩)) h3
  by_cases k4 : (W.T.getD i t0).1 = 4
  ·have l2 := h2 (Or.inr k4)
   have hin : inS L ((W.T.getD i t0).2.1.getD 0 (0, 0)) = true := by
    cases d : inS L ((W.T.getD i t0).2.1.getD 0 (0, 0))
    ·exact absurd ⟨⟨Or.inr k4, d⟩, by
      rcases (show k = 0 \/ k = 1 by omega) with e | e
      ·exact Or.inl e
      ·exact Or.inr ⟨k4, e⟩⟩ c
    ·rfl
   rcases (show k = 0 \/ k = 1 by omega) with e | e
   ·subst e
    exact inS_yes hin h3
   ·subst e
    exact cl i al.1 hi _ (Or.inr (Or.inr (Or.inl ⟨k4, inS_yes hin, rfl⟩))) h3
  ·omega
theorem Cutd.done (h : Rl a S W m Y G) (c : Cutd a S W m B L C S' m' G') : Rl a S' ⟨cuL L W.T W.T.length, W.rs, W.rg.filter (fun e => isd B e.2 && isd L e.1), (W.wt ++ C).filter (fun e => isd L e.1)⟩ m' [] G' := by
  have gt : ∀ j, j < W.T.length -> (cuL L W.T W.T.length).getD j t0 = cuT L j (W.T.getD j t0) := fun j hj => by
    rw [cuL_get L W.T W.T.length j (Nat.le_refl _) hj, if_pos hj]
  have h2 : ∀ i, Ls_ L i -> ((W.T.getD i t0).1 = 3 \/ (W.T.getD i t0).1 = 4 -> (W.T.getD i t0).2.1.length = 2) := fun i hi q => h.two (c.ok.al i hi) (Or.inr q)
  have al : ∀ j, Alv (cuL L W.T W.T.length) j ↔ Ls_ L j := fun j => by
    unfold Alv
    rw [cuL_len]
    constructor
    · rintro ⟨h1, h2⟩
      rw [gt j h1] at h2
      unfold Ls_
      cases d : L.getD j false
      · rw [cuT_no d] at h2
        cases h2
      · rfl
    · intro hL
      have ha := c.ok.al j hL
      refine ⟨ha.1, ?_⟩
      rw [gt j ha.1, (cuT_len hL (h2 j hL)).2.2]
      exact ha.2
  have gL : ∀ j, Ls_ L j -> ((cuL L W.T W.T.length).getD j t0).2.1.length = (W.T.getD j t0).2.1.length /\ ((cuL L W.T W.T.length).getD j t0).1 = (W.T.getD j t0).1 /\ ((cuL L W.T W.T.length).getD j t0).2.2.1 = true := fun j hL => by
    have ha := c.ok.al j hL
    obtain ⟨q1, q2, q3⟩ := cuT_len hL (h2 j hL)
    rw [gt j ha.1, q3]
    exact ⟨q1, q2, rfl⟩
  have vo : ∀ v, Vo W.T v -> (v.1 = 3 -> Ls_ L v.2.toNat) -> Vo (cuL L W.T W.T.length) v := fun v hv hL => ⟨fun e => ⟨(hv.t e).1, (al _).2 (hL e)⟩, hv.o⟩
  have eno : ∀ e, Eno W.T e -> Ls_ L e.1.toNat -> Ls_ L e.2.toNat -> Eno (cuL L W.T W.T.length) e := fun e he h1 h2 => ⟨he.g0, (al _).2 h1, by rw [(gL _ h1).2.1]; exact he.k, he.h0, (al _).2 h2⟩
  exact
  { kv := c.kv, rl := h.rl, rv := fun v hv => vo v (h.rv v hv) (c.rr v hv)
    fv := fun i hi v hv => by
      have hL := (al i).1 hi
      have ha := c.ok.al i hL
      have hv : v ∈ ((cuL L W.T W.T.length).getD i t0).2.1 := hv
      rw [gt i ha.1] at hv
      obtain ⟨k, hk, e⟩ := List.mem_iff_getElem.1 hv
      have ev : (cuT L i (W.T.getD i t0)).2.1.getD k (0, 0) = v := by
        rw [List.getD_eq_getElem?_getD, List.getElem?_eq_getElem hk, e]
        rfl
      rw [(cuT_len hL (h2 i hL)).1] at hk
      refine ⟨fun h3 => ?_, fun h3 => ?_⟩
      · have hl := h.led c.ok c.cl hL hk (by rw [ev]; exact h3)
        rw [ev] at hl
        refine ⟨?_, (al _).2 hl⟩
        rw [cuT_get hL (h2 i hL) hk] at ev
        split at ev
        · rw [<- ev] at h3
          exact absurd h3 (by decide)
        · rw [<- ev] at h3 ⊢
          exact ((h.fv i ha _ (getD_in hk)).t h3).1
      · rw [cuT_get hL (h2 i hL) hk] at ev
        split at ev
        · rw [<- ev]
          decide
        · rw [<- ev] at h3 ⊢
          exact (h.fv i ha _ (getD_in hk)).o h3
    rs := c.rs
    young := fun i hi e => by
      have e : ((cuL L W.T W.T.length).getD i t0).2.2.1 = false := e
      rw [(gL i ((al i).1 hi)).2.2] at e
      cases e
    old := fun i hi _ => c.pl i ((al i).1 hi)
    inj := fun i j hi hj e => c.inj i j ((al i).1 hi) ((al j).1 hj) e
    sur := fun v hv => by
      rcases hv with d | d
      · cases d
      · obtain ⟨i, hi, e⟩ := c.sur v d
        exact ⟨i, (al i).2 hi, e⟩
    hd := fun i hi => by
      have hL := (al i).1 hi
      show hc ((cuL L W.T W.T.length).getD i t0).1 ((cuL L W.T W.T.length).getD i t0).2.1.length = 0 /\ ld a.N S'.s.y S'.s.g S'.s.ws (m' i) = hw ((cuL L W.T W.T.length).getD i t0).1 ((cuL L W.T W.T.length).getD i t0).2.1.length
      rw [(gL i hL).1, (gL i hL).2.1, c.hd i hL]
      exact h.hd i (c.ok.al i hL)
    fd := fun i hi k hk => by
      have hL := (al i).1 hi
      have hk : k < ((cuL L W.T W.T.length).getD i t0).2.1.length := hk
      rw [(gL i hL).1] at hk
      show ld a.N S'.s.y S'.s.g S'.s.ws (m' i + 1 + k) = wv m' (((cuL L W.T W.T.length).getD i t0).2.1.getD k (0, 0))
      rw [gt i (c.ok.al i hL).1]
      exact c.fd i hL k hk
    rg := c.rg
    gv := fun e he => by
      obtain ⟨q1, q2⟩ := List.mem_filter.1 he
      rw [Bool.and_eq_true] at q2
      exact eno e (h.gv e q1) q2.2 (c.up _ q2.1)
    wt := c.wt
    wo := fun e he => by
      obtain ⟨q1, q2⟩ := List.mem_filter.1 he
      rcases List.mem_append.1 q1 with d | d
      · have hE := h.wo e d
        exact eno e hE q2 (c.cl _ hE.g.1 q2 (3, e.2) (Or.inr (Or.inr (Or.inr ⟨hE.k, e, d, by have := hE.g0; omega, rfl⟩))) rfl)
      · obtain ⟨z1, z2⟩ := c.cc e d
        exact eno e (h.gv e z1) q2 z2
    tl := fun i => by
      show ((cuL L W.T W.T.length).getD i t0).2.1.length <= 12
      by_cases hi : i < W.T.length
      · rw [gt i hi]
        cases d : L.getD i false
        · rw [cuT_no d]
          simp
        · rw [(cuT_len d (h2 i d)).1]
          exact h.tl i
      · rw [List.getD_eq_getElem?_getD, List.getElem?_eq_none (by rw [cuL_len]; omega)]
        simp [t0] }
end
end Go.Proofs.YtnalfnlmaallmaaGreat

namespace Go.Proofs.YtnalfnlmaallmaaGreat
open Go.RowKit W Kp Stl
section
variable {a : Wc} {S : Ww}
end
end Go.Proofs.YtnalfnlmaallmaaGreat

namespace Go.Proofs.YtnalfnlmaallmaaGreat
open Go.RowKit W Kp Stl
end Go.Proofs.YtnalfnlmaallmaaGreat

namespace Go.Proofs.YtnalfnlmaallmaaGreat
open Go.RowKit W Kp Stl
section
variable {a : Wc} {S : Ww} {W : Wrs} {m : Nat -> Int} {Y G : List Int}
theorem r5_of (h : KInv a S.s Y G) (hb : Wbd a S.s) (hf : S.jfull a = false) : (S.gcut a).r = ((S.r.filter (fun e => (S.s.j0 a).al (S.j2 a).1 e.2)).filter (fun e => (S.s.j0 a).al (S.j3 a) e.1)).map (fun e => ((S.s.j0 a).nw (S.j4 a) e.1, (S.s.j0 a).nw (S.j4 a) e.2)) := by
 have hI : JI (S.s.j0 a) js0 := JI.start hb.n1 hb.o1 hb.y1 hb.g1
 obtain ⟨d1, d2, d3⟩ := settled_all (S := S) hI
 obtain ⟨_, l2, l3⟩ := j0_lists h.inv.full hb
 obtain ⟨_, g, e5⟩ := great_in h hb hf
 obtain ⟨_, t2, t3, _⟩ := tlA_ld (s := S.j4 a) (k := S.s.j0 a) ⟨hb.l1, hb.y1, hb.g1⟩ hb.r1 hI.nd (j0_whl h.inv.full hb) (j0_ap h.inv.full hb)
 have t2 : (S.k5 a).Y = (S.s.j0 a).Y := t2
 have t3 : (S.k5 a).G = (S.s.j0 a).G := t3
 have hT5 : (S.k5 a).T = (S.s.j0 a).T := by unfold Jk.T; rw [t2, t3]
 have hjl : ∀ x, (S.k5 a).al (S.j4 a) x = (S.s.j0 a).al (S.j3 a) x := fun x => by
  have q0 : (S.k5 a).jl (S.j4 a) x = (S.s.j0 a).jl (S.j4 a) x := by
   unfold Jk.jl Jk.jt
   rw [hT5]
  unfold Jk.al
  rw [q0]
  cases hj : (S.s.j0 a).jt x
  ·unfold Jk.jl
   rw [hj]
   rfl
  ·have hmem := jt_mem hj
   rw [l3] at hmem
   have q := g.iff _ hmem
   unfold Jk.jl
   rw [hj, Bool.true_and, Bool.true_and]
   by_cases c : (S.j3 a).f (aV x) = -1
   ·rw [c, q.2 c]
   ·rw [beq_false_of_ne c, beq_false_of_ne (fun d => c (q.1 d))]
 have r3 : S.r3 a = (S.r.filter (fun e => (S.s.j0 a).al (S.j2 a).1 e.2)).filter (fun e => (S.s.j0 a).al (S.j3 a) e.1) := by
  show (((S.r.filter (fun e => (S.s.j0 a).al (S.j2 a).1 e.2)).filter (fun e => (S.s.j0 a).al (S.j3 a) e.1)).map fun e => ((S.s.j0 a).nw (S.j3 a) e.1, (S.s.j0 a).nw (S.j3 a) e.2)) = _
  have : (fun e : En => ((S.s.j0 a).nw (S.j3 a) e.1, (S.s.j0 a).nw (S.j3 a) e.2)) = id := by
   funext e
   rw [d1.mg.nw, d1.mg.nw]
   rfl
  rw [this, List.map_id]
 have eS : (S.k5 a).tS (S.j4 a, S.q3 a) (S.r3 a) = (S.j4 a, S.q3 a) := tS_same (fun e he => by
  show (S.k5 a).al (S.j4 a) e.2 = true
  rw [hjl]
  exact r3_alive (S := S) hI e he)
 unfold Ww.gcut
 rw [hf, if_neg (by simp)]
 show stR (noSd Js) (fun s x => (S.k5 a).al s.1 x) (S.k5 a).mq (fun s x => (S.k5 a).nw s.1 x) (S.j4 a, S.q3 a) (S.r3 a) = _
 unfold stR
 have e : stS (noSd Js) (fun s x => (S.k5 a).al s.1 x) (S.k5 a).mq (S.j4 a, S.q3 a) (S.r3 a) = (S.j4 a, S.q3 a) := eS
 rw [e]
 show (((S.r3 a).filter (fun e => (S.k5 a).al (S.j4 a) e.2)).filter (fun e => (S.k5 a).al (S.j4 a) e.1)).map (fun e => ((S.k5 a).nw (S.j4 a) e.1, (S.k5 a).nw (S.j4 a) e.2)) = _
 have e1 : (S.r3 a).filter (fun e => (S.k5 a).al (S.j4 a) e.2) = S.r3 a := List.filter_eq_self.2 (fun e he => by
  rw [hjl]
  exact r3_alive (S := S) hI e he)
 have e2 : (S.r3 a).filter (fun e => (S.k5 a).al (S.j4 a) e.1) = S.r3 a := List.filter_eq_self.2 (fun e he => by
  rw [hjl]
  rw [r3] at he
  exact (List.mem_filter.1 he).2)
 rw [e1, e2, r3]
 refine List.map_congr_left (fun e _ => ?_)
 rw [Jk.nw_of (k := S.k5 a) (k0 := S.s.j0 a) _ _ t2 t3, Jk.nw_of (k := S.k5 a) (k0 := S.s.j0 a) _ _ t2 t3]
theorem Rl.n4 (hR : Rl a S W m Y G) (hb : Wbd a S.s) {g : List Bool -> List Bool} (hg : Gok W.T W.wt g) : S.n4 a = cwn W.T (W.cR g true).1 W.T.length := by
 have hI : JI (S.s.j0 a) js0 := JI.start hb.n1 hb.o1 hb.y1 hb.g1
 have hs := Rg.settled hR hb hg
 obtain ⟨p1, _⟩ := pl_pos (S.s.j0 a) (fun c => !((S.j3 a).f c == -1)) (S.s.j0 a).T (S.j3 a, (a.N : Int)) hI.nd (fun _ _ => rfl)
 have p2 := p1.sum (fun c => (pf_bd _).1)
 have p2 : (sumF (szL (ld a.N S.s.y S.s.g S.s.ws)) ((S.s.j0 a).T.filter (fun c => !((S.j3 a).f c == -1))) : Int) = S.n4 a := p2
 rw [cwn_sum, <- p2, sumN_list (m := m) (f := szL (ld a.N S.s.y S.s.g S.s.ws)) (l := (S.s.j0 a).T.filter (fun c => !((S.j3 a).f c == -1))) (fun i _ hp => hR.size (hs.ok.al i hp)) (hI.nd.filter _) (fun i j _ _ hp hq e => hR.inj i j (hs.ok.al i hp) (hs.ok.al j hq) e) (fun v => ?_)]
 rw [List.mem_filter]
 constructor
 ·rintro ⟨h1, h2⟩
  obtain ⟨i, hi, rfl⟩ := hR.surT hb h1
  exact ⟨i, hi.1, (hs.mrk i hi).1 (by simpa using h2), rfl⟩
 ·rintro ⟨i, _, hp, rfl⟩
  have hi := hs.ok.al i hp
  exact ⟨hR.memT hb hi, by simpa using (hs.mrk i hi).2 hp⟩
theorem Rl.gfull (hR : Rl a S W m Y G) (hb : Wbd a S.s) {g : List Bool -> List Bool} (hg : Gok W.T W.wt g) : S.jfull a = W.cF g a.O true := by
 unfold Ww.jfull Wrs.cF
 rw [hR.n4 hb hg]
 simp
theorem Rl.gcode (hR : Rl a S W m Y G) (hb : Wbd a S.s) {g : List Bool -> List Bool} (hg : Gok W.T W.wt g) : S.gcode a = W.ccd g a.O true := by
 unfold Ww.gcode Wrs.ccd
 rw [hR.gfull hb hg]
theorem Rl.nwv (hR : Rl a S W m Y G) (hb : Wbd a S.s) {j : Js} {v : Int × Int} (hv : Vo W.T v) (hf : v.1 = 3 -> j.f (m v.2.toNat) ≠ -1) : (S.s.j0 a).nw j (wv m v) = wv (fun i => j.f (m i)) v := by
 unfold Jk.nw
 rw [hR.jt hb hv]
 by_cases c : v.1 = 3
 ·rw [(hR.vt hb hv c).2, c, if_pos (by simp [hf c]), wv_t c]
 ·rw [if_neg (by simp [c]), wv_o c, wv_o c]
theorem list_getD {α : Type} (d : α) {l l' : List α} (h : l.length = l'.length) (he : ∀ i, i < l.length -> l.getD i d = l'.getD i d) : l = l' := by
 refine List.ext_getElem h (fun i h1 h2 => ?_)
 have := he i h1
 rwa [List.getD_eq_getElem?_getD, List.getElem?_eq_getElem h1, List.getD_eq_getElem?_getD, List.getElem?_eq_getElem h2] at this
theorem wv_gone {m : Nat -> Int} : wv m (2, 0) = 3 := by
 rw [wv_o (by decide)]
 decide
theorem Rl.gcutd (hR : Rl a S W m Y G) (hb : Wbd a S.s) {g : List Bool -> List Bool} (hg : Gok W.T W.wt g) (hf : S.jfull a = false) :
    Cutd a S W m (W.c0 g true) (W.cR g true).1 (W.cR g true).2.1 (S.gcut a) (fun i => (S.j4 a).f (m i)) ((S.j4 a).lf (G ++ Y)) := by
  have hI : JI (S.s.j0 a) js0 := JI.start hb.n1 hb.o1 hb.y1 hb.g1
  have hs := Rg.settled hR hb hg
  have h0 := Rg.start hR hb hg
  obtain ⟨_, gin, _⟩ := great_in hR.kv hb hf
  obtain ⟨s1, s2, s3⟩ := settled_all (S := S) hI
  have eT := hR.T hb
  have mT : ∀ {i : Nat}, Alv W.T i -> m i ∈ G ++ Y := fun hi => by rw [<- eT]; exact hR.memT hb hi
  have al4 : ∀ i, Alv W.T i -> ((S.j4 a).f (m i) ≠ -1 ↔ Ls_ (W.cR g true).1 i) := fun i hi => by
    rw [<- hs.mrk i hi]
    exact not_congr (gin.iff _ (mT hi))
  have a4 : ∀ i, Ls_ (W.cR g true).1 i -> (S.j4 a).f (m i) ≠ -1 := fun i hL => (al4 i (hs.ok.al i hL)).2 hL
  have hcl : Cls W.T W.wt (Ls_ (W.cR g true).1) := by
    have hc := hR.marked hb hs.dn (fun x hx => by rw [hs.q]; exact List.mem_map_of_mem (List.mem_append_left _ hx))
    intro i hi hX v hv h3
    have toL : ∀ j, Ls_ (W.cR g true).1 j -> Alv W.T j /\ (S.j3 a).f (m j) ≠ -1 := fun j hj => ⟨hs.ok.al j hj, (hs.mrk j (hs.ok.al j hj)).2 hj⟩
    obtain ⟨q1, q2⟩ := hc i hi (toL i hX) v (hv.mono toL) h3
    exact (hs.mrk _ q1).1 q2
  have hup : ∀ i, Ls_ (W.c0 g true) i -> Ls_ (W.cR g true).1 i := fun i hi => by
    have ha := h0.ok.al i hi
    have hf2 := (h0.mrk i ha).2 hi
    refine (hs.mrk i ha).1 ?_
    show (S.j3 a).f (m i) ≠ -1
    rw [s2.f _ hf2]
    exact hf2
  have h2 : ∀ i, Ls_ (W.cR g true).1 i -> ((W.T.getD i t0).1 = 3 \/ (W.T.getD i t0).1 = 4 -> (W.T.getD i t0).2.1.length = 2) := fun i hi q => hR.two (hs.ok.al i hi) (Or.inr q)
  have wej : ∀ e, Eno W.T e -> Ls_ (W.cR g true).1 e.1.toNat -> Ls_ (W.cR g true).1 e.2.toNat -> ((S.s.j0 a).nw (S.j4 a) (we m e).1, (S.s.j0 a).nw (S.j4 a) (we m e).2) = we (fun i => (S.j4 a).f (m i)) e := fun e he h1 h2 => by
    have q1 := hR.nwv hb (j := S.j4 a) (v := (3, e.1)) ⟨fun _ => ⟨he.g0, he.g⟩, fun c => absurd rfl c⟩ (fun _ => a4 _ h1)
    have q2 := hR.nwv hb (j := S.j4 a) (v := (3, e.2)) ⟨fun _ => ⟨he.h0, he.h⟩, fun c => absurd rfl c⟩ (fun _ => a4 _ h2)
    rw [wv_t rfl, wv_t rfl] at q1 q2
    unfold we
    exact Prod.ext q1 q2
  have gc := gin.gc
  have ey : (S.gcut a).s.y = 0 := gc.y
  refine
  { kv := (gc.inv hR.kv hb gin.al).1, ok := hs.ok, cl := hcl, up := hup, rr := hs.r, cc := hs.c
    rs := ?_, pl := fun i hL => ?_, inj := fun i j hi hj e => ?_, sur := fun v hv => ?_, hd := fun i hL => ?_, fd := fun i hL k hk => ?_, rg := ?_, wt := ?_ }
  · refine list_getD 0 (by rw [List.length_map, hR.rl]; exact gc.rl) (fun i hi => ?_)
    have hi : i < 12 := by rw [gc.rl] at hi; exact hi
    obtain ⟨er, hv⟩ := hR.root hi
    rw [gc.rs i hi, er, getD_mapr (wv (fun i => (S.j4 a).f (m i))) W.rs i (0, 0) 0 (by rw [hR.rl]; exact hi)]
    exact hR.nwv hb hv (fun h3 => a4 _ (hs.r _ (getD_in (by rw [hR.rl]; exact hi)) h3))
  · exact List.mem_map.2 ⟨m i, List.mem_filter.2 ⟨mT (hs.ok.al i hL), by simpa using a4 i hL⟩, rfl⟩
  · have := gc.pos.inj (fun c => (pf_bd _).1) (m i) (mT (hs.ok.al i hi)) (m j) (mT (hs.ok.al j hj)) (by simpa using a4 i hi) (by simpa using a4 j hj) e
    exact hR.inj i j (hs.ok.al i hi) (hs.ok.al j hj) this
  · obtain ⟨c, hc, rfl⟩ := List.mem_map.1 hv
    obtain ⟨q1, q2⟩ := List.mem_filter.1 hc
    rw [<- eT] at q1
    obtain ⟨i, hi, rfl⟩ := hR.surT hb q1
    exact ⟨i, (al4 i hi).1 (by simpa using q2), rfl⟩
  · rw [ey]
    exact gc.hd _ (mT (hs.ok.al i hL)) (a4 i hL)
  · have ha := hs.ok.al i hL
    obtain ⟨p1, p2, _⟩ := hR.parts ha
    rw [ey, gc.fd _ (mT ha) (a4 i hL) k (Int.natCast_nonneg k) (by rw [p2]; omega), cuT_get hL (h2 i hL) hk]
    unfold Jk.bkf
    have e1 : pk ((S.s.j0 a).ld (m i)) = (W.T.getD i t0).1 := p1
    rw [e1]
    have ef : (S.s.j0 a).ld (m i + 1 + k) = wv m ((W.T.getD i t0).2.1.getD k (0, 0)) := hR.fd i ha k hk
    have key : (W.T.getD i t0).1 = 3 \/ (W.T.getD i t0).1 = 4 -> ((S.s.j0 a).jl (S.j4 a) ((S.s.j0 a).ld (m i + 1)) = true ↔ inS (W.cR g true).1 ((W.T.getD i t0).2.1.getD 0 (0, 0)) = false) := fun q => by
      have l2 := h2 i hL q
      have e0 : (S.s.j0 a).ld (m i + 1) = wv m ((W.T.getD i t0).2.1.getD 0 (0, 0)) := by
        have := hR.fd i ha 0 (by omega)
        show ld a.N S.s.y S.s.g S.s.ws (m i + 1) = _
        rw [<- this]
        congr 1
        omega
      have hko := hR.fv i ha _ (getD_in (x := ((0, 0) : Int × Int)) (show 0 < (W.T.getD i t0).2.1.length by omega))
      rw [e0]
      by_cases c3 : ((W.T.getD i t0).2.1.getD 0 (0, 0)).1 = 3
      · have q1 := hR.jlv hb (S.j4 a) hko c3
        have q2 := al4 _ (hko.t c3).2
        rw [inS_iff c3]
        constructor
        · intro d
          cases e : (W.cR g true).1.getD ((W.T.getD i t0).2.1.getD 0 (0, 0)).2.toNat false
          · rfl
          · rw [q1.2 (q2.2 e)] at d
            cases d
        · intro d
          cases e : (S.s.j0 a).jl (S.j4 a) (wv m ((W.T.getD i t0).2.1.getD 0 (0, 0)))
          · have := q2.1 (q1.1 e)
            unfold Ls_ at this
            rw [d] at this
            cases this
          · rfl
      · rw [inS_o c3]
        have : (S.s.j0 a).jl (S.j4 a) (wv m ((W.T.getD i t0).2.1.getD 0 (0, 0))) = false := by
          unfold Jk.jl
          rw [hR.jt hb hko]
          have : (((W.T.getD i t0).2.1.getD 0 (0, 0)).1 == 3) = false := by simpa using c3
          rw [this]
          rfl
        rw [this]
        simp
    by_cases cb : ((W.T.getD i t0).1 = 3 \/ (W.T.getD i t0).1 = 4) /\ inS (W.cR g true).1 ((W.T.getD i t0).2.1.getD 0 (0, 0)) = false
    · by_cases ck : k = 0 \/ ((W.T.getD i t0).1 = 4 /\ k = 1)
      · rw [if_pos ⟨⟨cb.1, (key cb.1).2 cb.2⟩, ck.imp (fun e => by omega) (fun e => ⟨e.1, by omega⟩)⟩, if_pos ⟨cb, ck⟩, wv_gone]
        unfold Jk.nw Jk.jt
        rw [show aB 3 = false by decide, Bool.false_and, Bool.false_and, if_neg (by simp)]
      · rw [if_neg (fun q => ck (q.2.imp (fun e => by omega) (fun e => ⟨e.1, by omega⟩))), if_neg (fun q => ck q.2), ef]
        refine hR.nwv hb (hR.fv i ha _ (getD_in hk)) (fun h3 => a4 _ ?_)
        have hl := hR.led hs.ok hcl hL hk
        rw [cuT_get hL (h2 i hL) hk, if_neg (fun q => ck q.2)] at hl
        exact hl h3
    · rw [if_neg (fun q => cb ⟨q.1.1, (key q.1.1).1 q.1.2⟩), if_neg (fun q => cb q.1), ef]
      refine hR.nwv hb (hR.fv i ha _ (getD_in hk)) (fun h3 => a4 _ ?_)
      have hl := hR.led hs.ok hcl hL hk
      rw [cuT_get hL (h2 i hL) hk, if_neg (fun q => cb q.1)] at hl
      exact hl h3
  · rw [r5_of hR.kv hb hf, hR.rg, List.filter_filter]
    rw [filter_mapr (we m) _ (fun e => isd (W.c0 g true) e.2 && isd (W.cR g true).1 e.1) W.rg (fun e he => by
      have q1 := Rg.is hR hb h0 (hR.gv e he).h
      have q2 := Rg.is hR hb hs (hR.gv e he).g
      have q1 : (S.s.j0 a).al (S.j2 a).1 (we m e).2 = isd (W.c0 g true) e.2 := q1
      have q2 : (S.s.j0 a).al (S.j3 a) (we m e).1 = isd (W.cR g true).1 e.1 := q2
      rw [q1, q2, Bool.and_comm]), List.map_map]
    refine List.map_congr_left (fun e he => ?_)
    obtain ⟨z1, z2⟩ := List.mem_filter.1 he
    rw [Bool.and_eq_true] at z2
    exact wej e (hR.gv e z1) z2.2 (hup _ z2.1)
  · rw [q5_of hR.kv hb hf]
    have eq : ((S.s.j0 a).sS (S.j2 a) S.r).2 = (W.wt ++ (W.cR g true).2.1).map (we m) := hs.q
    have hE : ∀ e ∈ W.wt ++ (W.cR g true).2.1, Eno W.T e := fun e he => by
      rcases List.mem_append.1 he with d | d
      · exact hR.wo e d
      · exact hR.gv e (hs.c e d).1
    rw [eq, filter_mapr (we m) _ (fun e => isd (W.cR g true).1 e.1) _ (fun e he => Rg.is hR hb hs (hE e he).g), List.map_map]
    refine List.map_congr_left (fun e he => ?_)
    obtain ⟨z1, z2⟩ := List.mem_filter.1 he
    have h5 := hE e z1
    refine wej e h5 z2 ?_
    rcases List.mem_append.1 z1 with d | d
    · exact hcl _ h5.g.1 z2 (3, e.2) (Or.inr (Or.inr (Or.inr ⟨h5.k, e, d, by have := h5.g0; omega, rfl⟩))) rfl
    · exact (hs.c e d).2
theorem Rl.gcut (hR : Rl a S W m Y G) (hb : Wbd a S.s) {g : List Bool -> List Bool} (hg : Gok W.T W.wt g) : ∃ m' Y' G', Rl a (S.gcut a) (W.cut g a.O true) m' Y' G' := by
 unfold Wrs.cut
 rw [<- hR.gfull hb hg]
 cases hf : S.jfull a
 ·rw [if_neg (by simp)]
  exact ⟨_, _, _, (hR.gcutd hb hg hf).done hR⟩
 ·rw [if_pos rfl]
  refine ⟨m, Y, G, ?_⟩
  unfold Ww.gcut
  rw [hf, if_pos rfl]
  exact hR
end
end Go.Proofs.YtnalfnlmaallmaaGreat
