/- Joined: Mn15, Mn16, Mn10, Mn11. -/
import Derived.Test.YtakofbkmhmcnfabGreatJ15
import Derived.Test.YtakofbkmhmcnfabGreatJ14
/- A small cut in memory: Settle, as it asks it; what is left of it: contracts. -/
namespace Go.Proofs.YtakofbkmhmcnfabGreat
open Go.RowKit W Kp Stl

section
variable {τ : Type} {o : Ob τ} {bx p : Nat} {x : Obj} {vr : Value} {F : Nat → Prop} {w w' : World}

/-- Without the block. -/
theorem mkSd_less {t : τ × List En} (h : (mkSd (obX o bx x) p vr).J F t w) : (mkSd o p vr).J (fun b => F b ∧ b ≠ bx) t w ∧ w.heap[bx]? = some x ∧ F bx := by
  obtain ⟨F0, ad, cap, ⟨F1, g1, g2, g3, g4⟩, h2, h3, h4, h5, h6, h7, h8⟩ := h
  have hbx : F0 bx := (g4 bx).2 (Or.inr rfl)
  exact ⟨⟨F1, ad, cap, g1, h2, h3, fun b hb => ⟨h4 b ((g4 b).2 (Or.inl hb)), fun e => g3 (by rw [← e]; exact hb)⟩, ⟨h5, fun e => h6 (by rw [e]; exact hbx)⟩, fun c => h6 ((g4 p).2 (Or.inl c)), fun b e => ⟨⟨(h7 b e).1, fun e' => (h7 b e).2 (by rw [e']; exact hbx)⟩, fun c => (h7 b e).2 ((g4 b).2 (Or.inl c))⟩, fun b hb => h8 b hb.1⟩, g2, h4 _ hbx⟩
/-- A step of what stands beside a Side, to whatever. -/
theorem mkSd_to {t : τ × List En} (h : (mkSd o p vr).J F t w) : ∃ F0, o.J F0 t.1 w ∧ ∀ {τ' : Type} (o' : Ob τ') F1 t1 w', o'.J F1 t1 w' → Tn F0 w F1 w' → ∃ F', (mkSd o' p vr).J F' (t1, t.2) w' ∧ Tn F w F' w' := by
  obtain ⟨F0, ad, cap, h1, h2, h3, h4, h5, h6, h7, h8⟩ := h
  refine ⟨F0, h1, fun o' F1 t1 w' hJ hT => ?_⟩
  have lp := lt_of_some h2
  refine ⟨fun k => F k ∨ F1 k, ⟨F1, ad, cap, hJ, (hT.fr.block p lp h6).trans h2, row_keep h3 (fun k e => hT.fr.block k (row_lt h3 k e).2 (h7 k e).2), fun k h => Or.inr h, Or.inl h5, fun h => (hT.sub p h).elim h6 (fun h => by omega), fun k e => ⟨Or.inl (h7 k e).1, fun h => (hT.sub k h).elim (h7 k e).2 (fun h => by have := (row_lt h3 k e).2; omega)⟩, fun k h => ?_⟩, hT.fr.mono h4, fun k h => ?_⟩
  · rcases h with h | h
    · exact Nat.lt_of_lt_of_le (h8 k h) hT.fr.size
    · exact o'.lt hJ k h
  · rcases h with h | h
    · exact Or.inl h
    · exact (hT.sub k h).imp (h4 k) id
end

/-- Nothing that could be in memory. -/
def botO (τ : Type) : Ob τ where
  J _ _ _ := False
  lt := fun h => h.elim
  keep := fun h => h.elim
/-- A Side of which the lists alone matter. -/
def noSd (τ : Type) : SdOb (τ × List En) := mkSd (botO τ) 0 (.slice none 0 0)
/-- What Settle comes to, as a cut asks it. -/
def Ck.sS (k : Ck) (t : Cs × List En) (r : List En) : Cs × List En := stS (noSd Cs) (fun s x => k.al s.1 x) k.ke t r
def Ck.sR (k : Ck) (t : Cs × List En) (r : List En) : List En := stR (noSd Cs) (fun s x => k.al s.1 x) k.ke (fun s x => k.nw s.1 x) t r
def Ck.sQ (k : Ck) (t : Cs × List En) (r : List En) : List En := stQ (noSd Cs) (fun s x => k.al s.1 x) k.ke (fun s x => k.nw s.1 x) t r

theorem wkQ_len {α : Type} (is : α → Int → Bool) (kp : α → Int → Int × α) (s : α × List En) : ∀ n, (wkQ is kp s n).1.2.length = s.2.length
  | 0 => rfl
  | n + 1 => by
    have e : wkQ is kp s (n + 1) = wkP is kp (wkQ is kp s n) n := by simp [wkQ, List.range_succ]
    rw [e]
    have ih := wkQ_len is kp s n
    generalize wkQ is kp s n = t at ih ⊢
    unfold wkP
    split
    · exact ih
    · simpa using ih
theorem spr_len (k : Ck) : ∀ (n : Nat) (t : Cs × List En), (k.spr n t).2.length = t.2.length
  | 0, _ => rfl
  | n + 1, t => by
    unfold Ck.spr
    split
    · exact spr_len k n _
    · split
      · exact (spr_len k n _).trans (wkQ_len _ _ _ _)
      · exact wkQ_len _ _ _ _
theorem ke_len (k : Ck) (t : Cs × List En) (x : Int) : (k.ke t x).2.2.length = t.2.length := spr_len k _ _

section
variable {c : Cc} {k : Ck} {F : Nat → Prop} {s : Cs} {w : World} {vr : Value}

theorem keepsW_fkM (bx : Nat) {adr : Option Addr} {nr cr : Nat} (hvr : vr = .slice adr nr cr) : KeepsW (mkSd (obX (cutI c k) bx (boxC c)) c.sd vr) (fun _ => True) (fkM c).f (fkM c).b (fkM c).c k.ke := by
  intro F t w x _ hn hJ
  have hn : (k.ke t x).2.2.length ≤ 90000 := hn
  obtain ⟨h1, hx, hbx⟩ := mkSd_less hJ
  rw [ke_len] at hn
  refine (keepM_any hvr h1 hn x).mono ?_
  rintro r w' ⟨F', rfl, hM, hT⟩
  have lx := lt_of_some hx
  have nF : ¬ F' bx := fun d => (hT.sub bx d).elim (fun d => d.2 rfl) (fun d => by omega)
  refine ⟨fun b => F' b ∨ b = bx, rfl, mkSd_add hM ((hT.fr.block bx lx (fun d => d.2 rfl)).trans hx) nF, hT.fr.mono (fun b d => d.1), fun b d => ?_⟩
  rcases d with d | d
  · exact (hT.sub b d).imp (fun d => d.1) id
  · exact Or.inl (by rw [d]; exact hbx)

theorem lksM (bx : Nat) {adr : Option Addr} {nr cr : Nat} (hvr : vr = .slice adr nr cr) : Lks (mkSd (obX (cutI c k) bx (boxC c)) c.sd vr) (fun _ => True) (faM bx) (fkM c) (fnM c) (fun s x => k.al s.1 x) k.ke (fun s x => k.nw s.1 x) where
  ea := ent_faM
  ek := ent_fkM
  en := ent_fnM
  ha := by
    rintro F s w x _ ⟨F0, ad, cap, h1, _⟩
    exact alives_faM bx F0 s.1 w x trivial h1
  hk := keepsW_fkM bx hvr
  ht := by
    rintro F s w x _ ⟨F0, ad, cap, h1, _⟩
    exact tells_obX tells_fnM F0 s.1 w x trivial h1
  hl := fun s x => ke_len k s x

theorem settleM_any {adr : Option Addr} {cr : Nat} {r : List En} (hvr : vr = .slice adr r.length cr) {t : Cs × List En} (h : (mkSd (cutI c k) c.sd vr).J F t w) (hr : w.ownsRow 0 95 2 vr r.length (ev r)) (hq : t.2.length + r.length ≤ 90000) (bx : Nat) (hx : w.heap[bx]? = some (boxC c)) (hn : ¬ F bx) :
    Calls Tryz.prog 63 #[.pointer (some ⟨c.sd, 0, none⟩), .agg #[(faM bx).v, (fkM c).v, (fnM c).v]] w fun e w' => ∃ a1 c1 F', e = .returned (.tuple #[]) ∧ (mkSd (cutI c k) c.sd (.slice a1 (k.sR t r).length c1)).J F' ((k.sS t r).1, k.sQ t r) w' ∧
      w'.ownsRow 0 95 2 (.slice a1 (k.sR t r).length c1) (k.sR t r).length (ev (k.sR t r)) ∧ (∀ b, some b = (Value.slice a1 (k.sR t r).length c1).ownBlock → ¬ F' b ∧ w.heap.size ≤ b) ∧ Fr (fun b => F b ∨ b = bx) w w' ∧ (∀ b, F' b → F b ∨ w.heap.size ≤ b) := by
  subst hvr
  have P := settle_more (mkSd (obX (cutI c k) bx (boxC c)) c.sd (.slice adr r.length cr)) (fun _ => True) (faM bx) (fkM c) (fnM c) _ _ _ (lksM bx rfl) r adr cr rfl (by omega) (fun _ _ => ⟨trivial, trivial⟩) _ t w (fun _ _ => ⟨trivial, trivial⟩) hq (mkSd_add h hx hn) (row_pairs hr)
  refine P.mono ?_
  clear P
  rintro e w' ⟨a1, c1, a2, c2, F1, wm, rfl, ⟨F0, ad, cap, ⟨Fc, g1, g2, g3, g4⟩, h2, h3, h4, h5, h6, h7, h8⟩, q3, q4, q5, q6, q7, q8, q9, q10, q11, q12⟩
  have q5 : w'.heap[c.sd]? = some (.cells #[.slice a1 (k.sR t r).length c1, .slice a2 (k.sQ t r).length c2] 162 (0, 0)) := q5
  have q6 : w'.ownsRow w.heap.size 95 2 (.slice a1 (k.sR t r).length c1) (k.sR t r).length (ev (k.sR t r)) := q6
  have q7 : w'.ownsRow w.heap.size 95 2 (.slice a2 (k.sQ t r).length c2) (k.sQ t r).length (ev (k.sQ t r)) := q7
  have q10 : ∀ b, some b = (Value.slice a1 (k.sR t r).length c1).ownBlock → ¬ F1 b := q10
  have q11 : ∀ b, some b = (Value.slice a2 (k.sQ t r).length c2).ownBlock → ¬ F1 b := q11
  have q12 : ∀ b, some b = (Value.slice a1 (k.sR t r).length c1).ownBlock → some b ≠ (Value.slice a2 (k.sQ t r).length c2).ownBlock := q12
  have g1 : (cutI c k).J Fc (k.sS t r).1 wm := g1
  have fc1 : ∀ b, Fc b → F1 b := fun b hb => h4 b ((g4 b).2 (Or.inl hb))
  have fcp : ∀ b, Fc b → b ≠ c.sd := fun b hb e => h6 (by show F0 c.sd; rw [← e]; exact (g4 b).2 (Or.inl hb))
  have g1' := (cutI c k).keep (w' := w') g1 q4 (fun b hb => q3 b (fc1 b hb) (fcp b hb))
  have hFs : F c.sd := by
    obtain ⟨_, _, _, _, _, _, _, e5, _⟩ := h
    exact e5
  refine ⟨a1, c1, fun b => Fc b ∨ b = c.sd ∨ some b = (Value.slice a2 (k.sQ t r).length c2).ownBlock, rfl, ⟨Fc, a2, c2, g1', q5, row_base q7 (fun _ _ => Nat.zero_le _), fun b hb => Or.inl hb, Or.inr (Or.inl rfl), fun d => fcp _ d rfl, fun b e => ⟨Or.inr (Or.inr e), fun d => q11 b e (fc1 b d)⟩, fun b hb => ?_⟩, row_base q6 (fun _ _ => Nat.zero_le _), fun b e => ⟨fun d => ?_, (row_lt q6 b e).1⟩, q8, fun b hb => ?_⟩
  · rcases hb with hb | hb | hb
    · exact (cutI c k).lt g1' b hb
    · rw [hb]; exact lt_of_some q5
    · exact (row_lt q7 b hb).2
  · rcases d with d | d | d
    · exact q10 b e (fc1 b d)
    · obtain ⟨cs, hc⟩ := row_type q6 b e
      rw [d, q5] at hc
      simp at hc
    · exact q12 b e d
  · rcases hb with hb | hb | hb
    · rcases q9 b (fc1 b hb) with (d | d) | d
      · exact Or.inl d
      · exact absurd hb (by rw [d]; exact g3)
      · exact Or.inr d
    · exact Or.inl (by rw [hb]; exact hFs)
    · exact Or.inr (row_lt q7 b hb).1
end

/-- What is left of a cut is a wood. -/
theorem cut_wood {pk mq pq y : Nat} {a : Wc} {M T : List Int} {F : Nat → Prop} {s : Cs} {w : World} (h : (cutO ⟨pk, mq, a.pw, a.p, a.q, a.pc, pq, a.sd, a.nb, nC a.O, M⟩ ⟨a.N, a.O, y, T⟩).J F s w) : ∃ F', (wodO a).J F' ⟨y, s.g, s.ws, M, s.rs⟩ w ∧ (∀ b, F' b → F b) ∧ ¬ F' pk := by
  obtain ⟨vw, ve, own, h, hF⟩ := h
  have e1 : ∀ b j, own b = j → j ≤ 4 → (if own b ≤ 4 then own b else 0) = j := fun b j e hj => by rw [if_pos (by omega)]; exact e
  refine ⟨fun b => (if own b ≤ 4 then own b else 0) ≠ 0, ⟨fun b => if own b ≤ 4 then own b else 0, pq, ?_, fun b => Iff.rfl⟩, fun b hb => (hF b).2 (fun e => hb (by rw [e]; rfl)), fun hb => hb ?_⟩
  · exact { ar := h.ar, a1 := e1 _ _ h.a1 (by decide), a2 := e1 _ _ h.a2 (by decide), cd := h.cd, c1 := e1 _ _ h.c1 (by decide), c2 := e1 _ _ h.c2 (by decide), wd := h.wd, w1 := e1 _ _ h.w1 (by decide), rt := h.rt, rl := h.rl, r1 := e1 _ _ h.r1 (by decide)
            le := fun b => by
              split
              · assumption
              · decide
            lt := fun b hb => h.lt b (fun e => hb (by rw [e]; rfl)) }
  · have := h.k1
    dsimp only at this
    rw [this]
    rfl

/-- A wood and what stands beside. -/
structure Ww where
  s : Wst
  r : List En
  q : List En
def wsO (a : Wc) : Ob Ww where
  J F S w := ∃ F0 ar cr, (mkSd (wodO a) a.sd (.slice ar S.r.length cr)).J F0 (S.s, S.q) w ∧ w.ownsRow 0 95 2 (.slice ar S.r.length cr) S.r.length (ev S.r) ∧ (∀ b, some b = (Value.slice ar S.r.length cr).ownBlock → ¬ F0 b) ∧ ∀ b, F b ↔ (F0 b ∨ some b = (Value.slice ar S.r.length cr).ownBlock)
  lt := by
    rintro F S w ⟨F0, ar, cr, h1, h2, h3, hF⟩ b hb
    rcases (hF b).1 hb with hb | hb
    · exact (mkSd (wodO a) a.sd (.slice ar S.r.length cr)).lt h1 b hb
    · exact (row_lt h2 b hb).2
  keep := by
    rintro F S w w' ⟨F0, ar, cr, h1, h2, h3, hF⟩ hs hk
    exact ⟨F0, ar, cr, (mkSd (wodO a) a.sd (.slice ar S.r.length cr)).keep h1 hs (fun b hb => hk b ((hF b).2 (Or.inl hb))), row_keep h2 (fun b e => hk b ((hF b).2 (Or.inr e))), h3, hF⟩

end Go.Proofs.YtakofbkmhmcnfabGreat

/- A small cut: what it begins with is as it may be; what it comes to: lists alone. -/
namespace Go.Proofs.YtakofbkmhmcnfabGreat
open Go.RowKit W Kp Stl

section
variable {N y g : Nat} {ws : List Int} {hi : Int}

theorem ths_nd : ∀ (k : Nat) (a : Int), (ths N y g ws hi k a).Nodup
  | 0, a => by unfold ths; exact List.nodup_nil
  | k + 1, a => by
    unfold ths
    split
    · split
      · rw [List.nodup_cons]
        refine ⟨fun h => ?_, ths_nd k _⟩
        have h1 := (ths_bd k _ _ h).1
        have h2 := pf_bd (ld N y g ws a)
        omega
      · exact List.nodup_nil
    · exact List.nodup_nil
theorem ths_pc : ∀ (k : Nat) (a x : Int), x ∈ ths N y g ws hi k a → pc (ld N y g ws x) = 0
  | 0, a, x, h => by simp [ths] at h
  | k + 1, a, x, h => by
    unfold ths at h
    split at h
    · split at h
      · rcases List.mem_cons.1 h with h | h
        · rw [h]; assumption
        · exact ths_pc k _ x h
      · simp at h
    · simp at h
theorem Tw_sum : ∀ (k : Nat) (a : Int), (((ths N y g ws y k a).filter (fun a => decide (a + pf (ld N y g ws a) < y))).map (fun a => 1 + (pf (ld N y g ws a)).toNat)).sum ≤ ((y : Int) - a).toNat
  | 0, a => by simp [ths]
  | k + 1, a => by
    unfold ths
    split
    · split
      · have ih := Tw_sum k (a + (1 + pf (ld N y g ws a)))
        have h2 := pf_bd (ld N y g ws a)
        by_cases c : a + pf (ld N y g ws a) < y
        · rw [List.filter_cons_of_pos (by simpa using c)]
          simp only [List.map_cons, List.sum_cons]
          omega
        · rw [List.filter_cons_of_neg (by simpa using c)]
          omega
      · simp
    · simp
end

/-- What a cut of a wood begins with. -/
def Wst.k0 (a : Wc) (s : Wst) : Ck := ⟨a.N, a.O, s.y, Tw a.N s.y s.g s.ws⟩
def Wst.s0 (a : Wc) (s : Wst) : Cs := ⟨s.g, s.ws, fun _ => -1, (a.N : Int) + s.g, [], [], s.rs⟩
theorem CI.start {a : Wc} {s : Wst} (hN : 16 ≤ a.N) (hN' : a.N ≤ 256) (hO : a.O ≤ 1024) (hy : s.y ≤ a.N) (hg : s.g ≤ a.O) (hl : s.ws.length = a.N + a.O) (hr : s.y ≤ a.O - s.g) : CI (s.k0 a) (s.s0 a) := by
  have hT : ∀ x ∈ Tw a.N s.y s.g s.ws, x ∈ thY a.N s.y s.g s.ws ∧ x + pf (ld a.N s.y s.g s.ws x) < s.y := fun x hx => by simpa [Tw] using hx
  refine ⟨hN, hN', hO, hy, hg, hl, fun x hx => ?_, (ths_nd 2000 0).filter _, ?_, ?_, ?_, by simp [Wst.s0], by simp [Wst.s0], ?_⟩
  · obtain ⟨h1, h2⟩ := hT x hx
    exact ⟨(thY_bd x h1).1, ths_pc _ _ _ h1, by show x + 1 + pf (ld a.N s.y s.g s.ws x) ≤ s.y; omega⟩
  · have h1 := Tw_sum (N := a.N) (y := s.y) (g := s.g) (ws := s.ws) 2000 0
    have e : (s.k0 a).sz (s.s0 a) = (((ths a.N s.y s.g s.ws s.y 2000 0).filter (fun x => decide (x + pf (ld a.N s.y s.g s.ws x) < s.y))).map (fun x => 1 + (pf (ld a.N s.y s.g s.ws x)).toNat)).sum := by
      unfold Ck.sz
      have e2 : (s.k0 a).T.filter (fun x => (s.s0 a).f x == -1) = (s.k0 a).T := List.filter_eq_self.2 (fun _ _ => rfl)
      rw [e2]
      rfl
    rw [e]
    show _ ≤ a.O - s.g
    omega
  · show (a.N : Int) ≤ (a.N : Int) + s.g
    omega
  · show (a.N : Int) + s.g ≤ (a.N : Int) + a.O + 13
    omega
  · exact Nat.le_trans (List.length_filter_le _ _) (ths_le _ _)

/-- What it comes to. -/
def Wst.s1 (a : Wc) (s : Wst) : Cs := (s.k0 a).kr (s.s0 a) 12
def Wst.s2 (a : Wc) (s : Wst) : Cs := (s.k0 a).lm (nC a.O) s.M (s.s1 a) (thO a.N s.y (s.s1 a).g (s.s1 a).ws)
def Ww.t3 (a : Wc) (S : Ww) : Cs × List En := (S.s.k0 a).sp (S.s.s2 a, S.q)
def Ww.s4 (a : Wc) (S : Ww) : Cs := ((S.s.k0 a).sS (S.t3 a) S.r).1
def Ww.s5 (a : Wc) (S : Ww) : Cs := (S.s.k0 a).mw (S.s4 a) (S.s4 a).wk
def Ww.s6 (a : Wc) (S : Ww) : Cs := (S.s.k0 a).be (S.s5 a) (S.s5 a).ep
def Ww.full (a : Wc) (S : Ww) : Bool := decide (a.O - S.s.g < S.s.y)
def Ww.cut (a : Wc) (S : Ww) : Ww := if S.full a = true then S else ⟨⟨0, (S.s6 a).g, (S.s6 a).ws, [], (S.s6 a).rs⟩, (S.s.k0 a).sR (S.t3 a) S.r, (S.s.k0 a).sQ (S.t3 a) S.r⟩
def Ww.code (a : Wc) (S : Ww) : Int := if S.full a = true then 3 else 0

end Go.Proofs.YtakofbkmhmcnfabGreat

/- A small cut in memory: mendWeaks, breakEphems, keepRoots, each: contracts. -/
namespace Go.Proofs.YtakofbkmhmcnfabGreat
open Go.RowKit W Kp Stl

section
variable {c : Cc} {k : Ck} {F : Nat → Prop} {s : Cs} {w : World}

set_option maxRecDepth 100000 in
set_option maxHeartbeats 2000000 in
theorem breakE_any (h : (cutO c k).J F s w) (hI : CI k s) (hl : s.ep.length ≤ 10000) :
    Calls Tryz.prog 67 #[.pointer (some ⟨c.pk, 0, none⟩)] w fun e w' => e = .returned (.tuple #[]) ∧ (cutO c k).J F (k.be s s.ep) w' ∧ Tn F w F w' := by
  obtain ⟨vw, ve, h⟩ := h
  obtain ⟨c0, _, _, _, c4, c5, _, _, _, cz, _, er, _, lk, _⟩ := cut_cells h
  obtain ⟨ad, cap, rfl⟩ := row_slice er
  have HI : Hid (CI k s) := hI
  have HP : Hid (∀ a ∈ s.ep, (k.N : Int) ≤ a ∧ a ≤ 2000) := hI.ep0
  have hN0 : (0 : Int) ≤ k.N := by omega
  clear hI cz
  go_enter Tryz.func67, Tryz.ntmps67
  go_wp2_with fail
  go_loopw [9] (fun iv wr => ∃ (j : Nat) (s1 : Cs), j ≤ s.ep.length ∧ iv = .int .i64 j ∧ Hid (k.be s (s.ep.take j) = s1) ∧ (cutV c k vw (.slice ad s.ep.length cap)).J F s1 wr ∧ Tn F w F wr ∧ Hid (CI k s1 ∧ Cq k s s1)) (fun iv _ => s.ep.length - (intOf iv).toNat)
  case atStart => exact ⟨0, s, Nat.zero_le _, rfl, rfl, h, Tn.refl _ _, ⟨HI.out, Cq.refl _ _⟩⟩
  case round =>
    obtain ⟨j, s1, hj, rfl, HE, hJ, hT, HI1⟩ := hrel
    obtain ⟨d0, _, _, _, d4, d5, _, _, _, dz, _, er1, _, lk1, _⟩ := cut_cells hJ
    have eep := HI1.out.2.ep
    rw [eep] at er1
    by_cases hlt : j < s.ep.length
    · obtain ⟨b0, o0, e0, hb0, hc⟩ := row_ints er1 (by omega)
      have x1 := hc j hlt
      subst e0
      have hin : s.ep.getD j 0 ∈ s.ep := by rw [List.getD_eq_getElem?_getD, List.getElem?_eq_getElem hlt]; exact List.getElem_mem hlt
      have hbd := HP.out _ hin
      have HS : Hid (k.be s (s.ep.take (j + 1)) = k.be1 s1 (s.ep.getD j 0)) := by
        show _ = _
        rw [take_snoc s.ep j hlt 0]
        unfold Ck.be
        rw [List.foldl_append]
        have := HE.out
        unfold Ck.be at this
        rw [this]
        rfl
      generalize s.ep.getD j 0 = a at x1 hbd HS
      have HI2 : Hid (CI k (k.be1 s1 a) ∧ Cq k s (k.be1 s1 a)) := by
        obtain ⟨i1, i2⟩ := HI1.out.1.be1 hbd.1
        exact ⟨i1, HI1.out.2.trans i2⟩
      have HB : Hid (k.be1 s1 a = k.st (k.st s1 (a + 1) 3) (a + 2) 3) := rfl
      generalize k.be1 s1 a = s3 at HS HI2 HB
      have HJ1 : Hid ((cutV c k vw (.slice (some ⟨b0, o0, none⟩) s.ep.length cap)).J F s1 wr ∧ Tn F w F wr) := ⟨hJ, hT⟩
      have hA := (cut_arena ((cutV c k vw (.slice (some ⟨b0, o0, none⟩) s.ep.length cap)).below hJ (Below.refl _ wr).drew))
      have HA : Hid (_ ∧ _) := hA
      have hw1 : IntKind.i64.wrap (a + 1) = a + 1 := by rw [IntKind.wrap_i64]; omega
      have hw2 : IntKind.i64.wrap (a + 2) = a + 2 := by rw [IntKind.wrap_i64]; omega
      clear hc hin hJ hT hA dz er1 d4
      go_wp2_with fail
      go_region_held3 (fun w' => w'.cell? ⟨c.pk, 0, none⟩ = some (.pointer (some ⟨c.pw, 0, none⟩)) ∧ w'.cell? ⟨c.pw, 0, none⟩ = some (.pointer (some ⟨c.p, 0, none⟩))) (go_keep)
        (first
          | (go_at_call 136; refine (gone_any _).mono ?_; rintro e w2 ⟨rfl, hw2'⟩; have hw2' := hw2'.symm; subst hw2')
          | (go_at_call 34; refine (store_any (a + 1) 3 wr.drew HA.out.1).mono ?_; rintro e w3 ⟨rfl, hA3, hs3⟩; obtain ⟨hJ3, hT3⟩ := HA.out.2 w3 _ _ hA3 hs3; obtain ⟨g0, _, _, _, _, g5, _⟩ := cut_cells hJ3; have HJ3 : Hid ((cutV c k vw (.slice (some ⟨b0, o0, none⟩) s.ep.length cap)).J F (k.st s1 (a + 1) 3) w3 ∧ Tn F w F w3) := ⟨hJ3, (HJ1.out.2.below (Below.refl _ wr).drew).trans hT3⟩; clear hA3 hs3 hJ3 hT3 HA HJ1))
      have hA := (cut_arena ((cutV c k vw (.slice (some ⟨b0, o0, none⟩) s.ep.length cap)).below HJ3.out.1 (Below.refl _ w3).drew))
      have HA : Hid (_ ∧ _) := hA
      clear hA d0 d5
      go_wp2_with fail
      go_region_held3 (fun w' => w'.cell? ⟨c.pk, 0, none⟩ = some (.pointer (some ⟨c.pw, 0, none⟩)) ∧ w'.cell? ⟨c.pw, 0, none⟩ = some (.pointer (some ⟨c.p, 0, none⟩))) (go_keep)
        (first
          | (go_at_call 136; refine (gone_any _).mono ?_; rintro e w2 ⟨rfl, hw2'⟩; have hw2' := hw2'.symm; subst hw2')
          | (go_at_call 34; refine (store_any (a + 2) 3 w3.drew HA.out.1).mono ?_; rintro e w5 ⟨rfl, hA3, hs3⟩; obtain ⟨hJ5, hT5⟩ := HA.out.2 w5 _ _ hA3 hs3; obtain ⟨r0, _, _, _, _, r5, _⟩ := cut_cells hJ5; have HJ5 : Hid ((cutV c k vw (.slice (some ⟨b0, o0, none⟩) s.ep.length cap)).J F s3 w5 ∧ Tn F w F w5) := ⟨(by rw [HB.out]; exact hJ5), (HJ3.out.2.below (Below.refl _ w3).drew).trans hT5⟩; clear hA3 hs3 hJ5 hT5 HA HJ3))
      clear g0 g5 r0 r5
      go_wp2_with fail
      go_roundw
      case rel => exact ⟨j + 1, s3, by omega, by go_num, HS, HJ5.out.1, HJ5.out.2, HI2⟩
      case measure => simp [intOf]; omega
    · obtain rfl : j = s.ep.length := by omega
      rw [List.take_length] at HE
      go_wp2_with fail
      go_end0
      rw [HE.out]
      exact ⟨rfl, ⟨_, _, hJ⟩, hT⟩

end

end Go.Proofs.YtakofbkmhmcnfabGreat

/- A small cut in memory: mendWeaks, keepRoots: contracts. -/
namespace Go.Proofs.YtakofbkmhmcnfabGreat
open Go.RowKit W Kp Stl

section
variable {c : Cc} {k : Ck} {F : Nat → Prop} {s : Cs} {w : World}

set_option maxRecDepth 100000 in
set_option maxHeartbeats 2000000 in
theorem mendW_any (h : (cutO c k).J F s w) (hI : CI k s) (hl : s.wk.length ≤ 10000) :
    Calls Tryz.prog 66 #[.pointer (some ⟨c.pk, 0, none⟩)] w fun e w' => e = .returned (.tuple #[]) ∧ (cutO c k).J F (k.mw s s.wk) w' ∧ Tn F w F w' := by
  obtain ⟨vw, ve, h⟩ := h
  obtain ⟨c0, _, _, c4, _, c5, _, _, _, cz, er, _, _, lk, _⟩ := cut_cells h
  obtain ⟨ad, cap, rfl⟩ := row_slice er
  have HI : Hid (CI k s) := hI
  have HP : Hid (∀ a ∈ s.wk, (k.N : Int) ≤ a ∧ a ≤ 2000) := hI.wk0
  have hN0 : (0 : Int) ≤ k.N := by omega
  clear hI cz
  go_enter Tryz.func66, Tryz.ntmps66
  go_wp2_with fail
  go_loopw [10] (fun iv wr => ∃ (j : Nat) (s1 : Cs), j ≤ s.wk.length ∧ iv = .int .i64 j ∧ Hid (k.mw s (s.wk.take j) = s1) ∧ (cutV c k (.slice ad s.wk.length cap) ve).J F s1 wr ∧ Tn F w F wr ∧ Hid (CI k s1 ∧ Cq k s s1)) (fun iv _ => s.wk.length - (intOf iv).toNat)
  case atStart => exact ⟨0, s, Nat.zero_le _, rfl, rfl, h, Tn.refl _ _, ⟨HI.out, Cq.refl _ _⟩⟩
  case round =>
    obtain ⟨j, s1, hj, rfl, HE, hJ, hT, HI1⟩ := hrel
    obtain ⟨d0, _, _, d4, _, d5, _, _, _, dz, er1, _, _, lk1, _⟩ := cut_cells hJ
    have eep := HI1.out.2.wk
    rw [eep] at er1
    by_cases hlt : j < s.wk.length
    · obtain ⟨b0, o0, e0, hb0, hc⟩ := row_ints er1 (by omega)
      have x1 := hc j hlt
      subst e0
      have hin : s.wk.getD j 0 ∈ s.wk := by rw [List.getD_eq_getElem?_getD, List.getElem?_eq_getElem hlt]; exact List.getElem_mem hlt
      have hbd := HP.out _ hin
      have HS : Hid (k.mw s (s.wk.take (j + 1)) = k.mw1 s1 (s.wk.getD j 0)) := by
        show _ = _
        rw [take_snoc s.wk j hlt 0]
        unfold Ck.mw
        rw [List.foldl_append]
        have := HE.out
        unfold Ck.mw at this
        rw [this]
        rfl
      generalize s.wk.getD j 0 = a at x1 hbd HS
      have HI2 : Hid (CI k (k.mw1 s1 a) ∧ Cq k s (k.mw1 s1 a)) := by
        obtain ⟨i1, i2⟩ := HI1.out.1.mw1 hbd.1
        exact ⟨i1, HI1.out.2.trans i2⟩
      have hw1 : IntKind.i64.wrap (a + 1) = a + 1 := by rw [IntKind.wrap_i64]; omega
      obtain ⟨hA, _⟩ := cut_arena hJ
      have L := load_any (a + 1) wr hA
      have el : ld k.N k.y s1.g s1.ws (a + 1) = k.ld s1 (a + 1) := rfl
      rw [el] at L
      have HJ1 : Hid ((cutV c k (.slice (some ⟨b0, o0, none⟩) s.wk.length cap) ve).J F s1 wr ∧ Tn F w F wr) := ⟨hJ, hT⟩
      clear hc hin hJ hT hA el dz er1 d4
      cases hls : k.ls s1 (k.ld s1 (a + 1))
      · have HB : Hid (k.mw1 s1 a = k.st s1 (a + 1) (k.nw s1 (k.ld s1 (a + 1)))) := by
          show _ = _
          unfold Ck.mw1
          rw [hls]
          rfl
        generalize k.mw1 s1 a = s3 at HS HI2 HB
        generalize k.ld s1 (a + 1) = x at L hls HB
        go_wp2_with fail
        refine L.mono ?_
        clear L
        rintro e w1 ⟨rfl, hb1⟩
        have P := lost_any ((cutV c k (.slice (some ⟨b0, o0, none⟩) s.wk.length cap) ve).below HJ1.out.1 hb1) x
        rw [hls] at P
        clear x1 d0 d5
        go_wp2_with fail
        refine P.mono ?_
        clear P
        rintro e w2 ⟨rfl, hb2⟩
        have hb := hb1.trans (hb2.mono hb1.size)
        have hJ2 := (cutV c k (.slice (some ⟨b0, o0, none⟩) s.wk.length cap) ve).below HJ1.out.1 hb
        obtain ⟨d0, _, _, _, _, d5, _⟩ := cut_cells hJ2
        have HJ2 : Hid ((cutV c k (.slice (some ⟨b0, o0, none⟩) s.wk.length cap) ve).J F s1 w2.drew ∧ Tn F w F w2.drew) := ⟨(cutV c k (.slice (some ⟨b0, o0, none⟩) s.wk.length cap) ve).below hJ2 (Below.refl _ w2).drew, (HJ1.out.2.below hb).below (Below.refl _ w2).drew⟩
        clear hb1 hb2 hJ2 hb HJ1
        go_wp2_with fail
        go_region_held3 (fun w' => w'.cell? ⟨c.pk, 0, none⟩ = some (.pointer (some ⟨c.pw, 0, none⟩)) ∧ w'.cell? ⟨c.pw, 0, none⟩ = some (.pointer (some ⟨c.p, 0, none⟩))) (go_keep)
          (first
            | (go_at_call 135; refine (nowM_any HJ2.out.1 x).mono ?_; rintro e w3 ⟨rfl, hb3⟩; have hJ3 := (cutV c k (.slice (some ⟨b0, o0, none⟩) s.wk.length cap) ve).below HJ2.out.1 hb3; obtain ⟨g0, _, _, _, _, g5, _⟩ := cut_cells hJ3; obtain ⟨hA3, hA4⟩ := cut_arena hJ3; have HA : Hid (_ ∧ _ ∧ _) := ⟨hA3, hA4, HJ2.out.2.below hb3⟩; clear hb3 hJ3 hA3 hA4 HJ2)
            | (go_at_call 34; refine (store_any (a + 1) (k.nw s1 x) w3 HA.out.1).mono ?_; rintro e w5 ⟨rfl, hA3, hs3⟩; obtain ⟨hJ5, hT5⟩ := HA.out.2.1 w5 _ _ hA3 hs3; obtain ⟨r0, _, _, _, _, r5, _⟩ := cut_cells hJ5; have HJ5 : Hid ((cutV c k (.slice (some ⟨b0, o0, none⟩) s.wk.length cap) ve).J F s3 w5 ∧ Tn F w F w5) := ⟨(by rw [HB.out]; exact hJ5), HA.out.2.2.trans hT5⟩; clear hA3 hs3 hJ5 hT5 HA))
        clear g0 g5 r0 r5 d0 d5
        go_wp2_with fail
        go_roundw
        case rel => exact ⟨j + 1, s3, by omega, by go_num, HS, HJ5.out.1, HJ5.out.2, HI2⟩
        case measure => simp [intOf]; omega
      · have HB : Hid (k.mw1 s1 a = k.st s1 (a + 1) 3) := by
          show _ = _
          unfold Ck.mw1
          rw [if_pos hls]
        generalize k.mw1 s1 a = s3 at HS HI2 HB
        generalize k.ld s1 (a + 1) = x at L hls
        go_wp2_with fail
        refine L.mono ?_
        clear L
        rintro e w1 ⟨rfl, hb1⟩
        have P := lost_any ((cutV c k (.slice (some ⟨b0, o0, none⟩) s.wk.length cap) ve).below HJ1.out.1 hb1) x
        rw [hls] at P
        clear x1 d0 d5
        go_wp2_with fail
        refine P.mono ?_
        clear P
        rintro e w2 ⟨rfl, hb2⟩
        have hb := hb1.trans (hb2.mono hb1.size)
        have hJ2 := (cutV c k (.slice (some ⟨b0, o0, none⟩) s.wk.length cap) ve).below HJ1.out.1 hb
        obtain ⟨d0, _, _, _, _, d5, _⟩ := cut_cells hJ2
        obtain ⟨hA3, hA4⟩ := cut_arena ((cutV c k (.slice (some ⟨b0, o0, none⟩) s.wk.length cap) ve).below hJ2 (Below.refl _ w2).drew)
        have HA : Hid (_ ∧ _ ∧ _) := ⟨hA3, hA4, (HJ1.out.2.below hb).below (Below.refl _ w2).drew⟩
        clear hb1 hb2 hJ2 hb HJ1 hA3 hA4
        go_wp2_with fail
        go_region_held3 (fun w' => w'.cell? ⟨c.pk, 0, none⟩ = some (.pointer (some ⟨c.pw, 0, none⟩)) ∧ w'.cell? ⟨c.pw, 0, none⟩ = some (.pointer (some ⟨c.p, 0, none⟩))) (go_keep)
          (first
            | (go_at_call 136; refine (gone_any _).mono ?_; rintro e w4 ⟨rfl, hw2'⟩; have hw2' := hw2'.symm; subst hw2')
            | (go_at_call 34; refine (store_any (a + 1) 3 w2.drew HA.out.1).mono ?_; rintro e w5 ⟨rfl, hA3, hs3⟩; obtain ⟨hJ5, hT5⟩ := HA.out.2.1 w5 _ _ hA3 hs3; obtain ⟨r0, _, _, _, _, r5, _⟩ := cut_cells hJ5; have HJ5 : Hid ((cutV c k (.slice (some ⟨b0, o0, none⟩) s.wk.length cap) ve).J F s3 w5 ∧ Tn F w F w5) := ⟨(by rw [HB.out]; exact hJ5), HA.out.2.2.trans hT5⟩; clear hA3 hs3 hJ5 hT5 HA))
        clear r0 r5 d0 d5
        go_wp2_with fail
        go_roundw
        case rel => exact ⟨j + 1, s3, by omega, by go_num, HS, HJ5.out.1, HJ5.out.2, HI2⟩
        case measure => simp [intOf]; omega
    · obtain rfl : j = s.wk.length := by omega
      rw [List.take_length] at HE
      go_wp2_with fail
      go_end0
      rw [HE.out]
      exact ⟨rfl, ⟨_, _, hJ⟩, hT⟩

theorem cut_nbne {vw ve : Value} (h : (cutV c k vw ve).J F s w) : c.nb ≠ c.pk ∧ c.nb ≠ c.pw := by
  obtain ⟨own, h, hF⟩ := h
  refine ⟨fun e => ?_, fun e => ?_⟩
  · have h1 := h.r1
    rw [e, h.k1] at h1
    omega
  · have h1 := h.r1
    rw [e, h.w1] at h1
    omega

set_option maxRecDepth 100000 in
set_option maxHeartbeats 2000000 in
theorem keepRoots_any (h : (cutO c k).J F s w) (hI : CI k s) :
    Calls Tryz.prog 60 #[.pointer (some ⟨c.pk, 0, none⟩)] w fun e w' => e = .returned (.tuple #[]) ∧ (cutO c k).J F (k.kr s 12) w' ∧ Tn F w F w' := by
  obtain ⟨vw, ve, h⟩ := h
  obtain ⟨c0, _, _, _, _, _, _, _, c8, _⟩ := cut_cells h
  have HI : Hid (CI k s) := hI
  clear hI
  go_enter Tryz.func60, Tryz.ntmps60
  go_wp2_with fail
  go_loopw [12] (fun iv wr => ∃ (j : Nat), j ≤ 12 ∧ iv = .int .i64 j ∧ (cutV c k vw ve).J F (k.kr s j) wr ∧ Tn F w F wr) (fun iv _ => 12 - (intOf iv).toNat)
  case atStart => exact ⟨0, Nat.zero_le _, rfl, h, Tn.refl _ _⟩
  case round =>
    obtain ⟨j, hj, rfl, hJ, hT⟩ := hrel
    by_cases hlt : j < 12
    · obtain ⟨d0, _, _, _, _, _, _, _, d8, _⟩ := cut_cells hJ
      obtain ⟨hrl, lnb, hr⟩ := cut_roots hJ
      obtain ⟨x1, xf⟩ := hr j hlt
      obtain ⟨n1, n2⟩ := cut_nbne hJ
      have HB : Hid (k.kr s (j + 1) = { (k.br (k.kr s j) ((k.kr s j).rs.getD j 0)).2 with rs := (k.br (k.kr s j) ((k.kr s j).rs.getD j 0)).2.rs.set j (k.br (k.kr s j) ((k.kr s j).rs.getD j 0)).1 }) := rfl
      have HI1 : Hid (CI k (k.kr s j)) := (HI.out.kr j).1
      have HJ1 : Hid ((cutV c k vw ve).J F (k.kr s j) wr.drew ∧ Tn F w F wr.drew) := ⟨(cutV c k vw ve).below hJ (Below.refl _ wr).drew, hT.below (Below.refl _ wr).drew⟩
      obtain ⟨s3, hs3⟩ : ∃ s3, s3 = k.kr s (j + 1) := ⟨_, rfl⟩
      rw [← hs3] at HB
      have HS3 : Hid (s3 = k.kr s (j + 1)) := hs3
      clear hs3
      generalize (k.kr s j).rs.getD j 0 = x at x1 HB
      generalize k.kr s j = s1 at *
      have j0 : (0 : Int) ≤ (j : Int) := by omega
      have j1 : (j : Int) < 12 := by omega
      clear hr hJ hT
      go_wp2_with fail
      go_region_held3 (fun w' => w'.cell? ⟨c.pk, 0, none⟩ = some (.pointer (some ⟨c.pw, 0, none⟩)) ∧ w'.cell? ⟨c.pw, 3, none⟩ = some (.slice (some ⟨c.nb, 0, none⟩) 12 12)) (go_keep)
        (first
          | (go_at_call 120; refine (bring_any HJ1.out.1 HI1.out x).mono ?_; rintro e w3 ⟨rfl, hJ3, hT3⟩; obtain ⟨g0, _, _, _, _, _, _, _, g8, _⟩ := cut_cells hJ3; obtain ⟨_, lnb3, hr3⟩ := cut_roots hJ3; obtain ⟨y1, yf⟩ := hr3 j hlt; have HJ3 : Hid ((cutV c k vw ve).J F (k.br s1 x).2 w3 ∧ Tn F w F w3) := ⟨hJ3, HJ1.out.2.trans hT3⟩; clear hJ3 hT3 hr3 HJ1))
      obtain ⟨hJ5, hT5⟩ := cut_root HJ3.out.1 j (k.br s1 x).1
      have HJ5 : Hid ((cutV c k vw ve).J F s3 (w3.setCell ⟨c.nb, j, none⟩ (.int .i64 (k.br s1 x).1)) ∧ Tn F w F (w3.setCell ⟨c.nb, j, none⟩ (.int .i64 (k.br s1 x).1))) := ⟨by rw [HB.out]; exact hJ5, HJ3.out.2.trans hT5⟩
      clear hJ5 hT5 HJ3 g0 g8 y1 yf d0 d8 x1 xf
      go_wp2_with fail
      go_roundw
      case rel => exact ⟨j + 1, by omega, by go_num, by rw [← HS3.out]; exact HJ5.out.1, HJ5.out.2⟩
      case measure => simp [intOf]; omega
    · obtain rfl : j = 12 := by omega
      go_wp2_with fail
      go_end0
      exact ⟨rfl, ⟨_, _, hJ⟩, hT⟩

end

end Go.Proofs.YtakofbkmhmcnfabGreat
