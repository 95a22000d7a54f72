/- Joined: Gx13, Rq3, Sdb, Gx14, Gx16. -/
import Derived.Test.YtogknhogphkddaaGreatJ23
import Derived.Test.YtogknhogphkddaaGreatJ07
import Derived.Test.YtogknhogphkddaaGreatJ06
import Derived.Test.YtogknhogphkddaaGreatJ16
import Derived.Test.YtogknhogphkddaaGreatJ04
import Derived.Test.YtogknhogphkddaaGreatJ20
/- A grove's cut in memory: what Settle asks: contracts. -/
namespace Go.Proofs.YtogknhogphkddaaGreat
open Go.RowKit W Kp Stl

def gaO (c : Cp) (bx : Nat) : Ob (List Bool) where
  J F A w := ∃ F0 st, (ctO c).J F0 st w ∧ st.A = A ∧ st.td = [] ∧ Mo c.s.T c.s.wt A st ∧ w.heap[bx]? = some (.cells #[.pointer (some ⟨c.cp, 0, none⟩)] 135 (0, 0)) ∧ ¬ F0 bx ∧ ∀ k, F k ↔ F0 k ∨ k = bx
  lt := by
    rintro F A w ⟨F0, st, h, _, _, _, hb, _, hF⟩ k hk
    rcases (hF k).1 hk with e | e
    · exact (ctO c).lt h k e
    · rw [e]
      exact lt_of_some hb
  keep := by
    rintro F A w w' ⟨F0, st, h, e1, e2, mo, hb, hn, hF⟩ hs hk
    exact ⟨F0, st, (ctO c).keep h hs (fun k d => hk k ((hF k).2 (Or.inl d))), e1, e2, mo, (hk bx ((hF bx).2 (Or.inr rfl))).trans hb, hn, hF⟩
def Dx (c : Cp) (x : Int) : Prop := 0 ≤ x ∧ Alv c.s.T x.toNat
theorem ent_alive : Ent 87 := ent_of Tryz.func87 (by kernel_rfl) rfl
theorem ent_keepX : Ent 88 := ent_of Tryz.func88 (by kernel_rfl) rfl
theorem ent_nowX : Ent 89 := ent_of Tryz.func89 (by kernel_rfl) rfl

section
variable {c : Cp} {own own' : Nat → Nat} {vt vt' : Value} {n1 n2 n1' n2' : Nat} {hm hm' : Int → Option Addr × Nat} {st : Cst} {w w' : World} {is : List Bool} {bx : Nat} {g : List Bool → List Bool}

theorem alivesX (hg : Cg c) : Alives (gaO c bx) (Dx c) 87 #[.pointer (some ⟨c.cp, 0, none⟩)] #[] isd := by
  rintro F A w x ⟨x0, xa⟩ ⟨F0, st, ⟨own, vt, n1, n2, hm, h, _⟩, rfl, _⟩
  exact isAliveX_any h x x0 (by have := xa.1; have := hg.t; omega)
set_option maxRecDepth 100000 in
set_option maxHeartbeats 2000000 in
theorem tellsX : Tells (gaO c bx) (Dx c) 89 #[] #[] (fun _ x => x) := by
  rintro F A w x _ _
  show Calls Tryz.prog 89 #[.int .i64 x] w _
  go_enter Tryz.func89, Tryz.ntmps89
  go_wp2_with fail
  go_ret
  exact ⟨rfl, Below.refl _ _⟩
theorem keep_set (hG : Gok c.s.T c.s.wt g) {A : List Bool} {st st2 : Cst} (h1 : Mo c.s.T c.s.wt A st) (e1 : st.A = A) {x : Int} (hx : Dx c x) (sp : Spr c.s.T c.s.wt (A.set x.toNat true) (mk1 st (3, x)) st2) : st2.A = kpg g A x ∧ Mo c.s.T c.s.wt (kpg g A x) st2 := by
  have hl : A.length = c.s.T.length := by rw [← e1]; exact h1.mi.len
  have hi : ∀ k, Ls_ (A.set x.toNat true) k ↔ x.toNat = k ∨ Ls_ A k := fun k => by
    unfold Ls_
    rw [getD_setB _ _ _ (by rw [hl]; exact hx.2.1)]
    split
    · exact ⟨fun _ => Or.inl ‹_›, fun _ => rfl⟩
    · exact ⟨Or.inr, fun c => c.resolve_left ‹_›⟩
  have hd := sp.mo.mi.done sp.td (by rw [List.length_set]; exact hl) (fun k hk => sp.up k (by
    rcases (hi k).1 hk with e | e
    · rw [← e]
      exact mk1_in st (3, x) rfl (by rw [h1.mi.len]; exact hx.2.1)
    · exact mk1_up _ _ (by rw [e1]; exact e)))
  have hu := hG (A.set x.toNat true) (by rw [List.length_set]; exact hl) (fun k hk => by
    rcases (hi k).1 hk with e | e
    · rw [← e]
      exact hx.2
    · exact h1.mi.al k (by rw [e1]; exact e))
  have e2 : st2.A = kpg g A x := hd.uniq hu
  exact ⟨e2, ⟨sp.mo.mi.base (fun k hk => by rw [← e2]; exact hk), sp.mo.hl, sp.mo.mm⟩⟩

set_option maxRecDepth 100000 in
set_option maxHeartbeats 4000000 in
theorem keepsX (hg : Cg c) (hG : Gok c.s.T c.s.wt g) : Keeps (gaO c bx) (Dx c) 88 #[] #[.pointer (some ⟨bx, 0, none⟩)] (fun A x => (x, kpg g A x)) := by
  rintro F A w x hx ⟨F0, st, ⟨own, vt, n1, n2, hm, h, hF0⟩, e1, e2, mo, hb, hn, hF⟩
  show Calls Tryz.prog 88 #[.int .i64 x, .pointer (some ⟨bx, 0, none⟩)] w _
  dsimp only
  have ob : own bx = 0 := by
    cases e : own bx
    · rfl
    · exact absurd ((hF0 bx).2 (Or.inr (by rw [e]; omega))) hn
  have lb := lt_of_some hb
  have bxw : ¬ bx < c.w0.heap.size := fun d => hn ((hF0 bx).2 (Or.inl d))
  have b0 : w.cell? ⟨bx, 0, none⟩ = some (.pointer (some ⟨c.cp, 0, none⟩)) := by simp [World.cell?, hb]
  have mo2 : Mo c.s.T c.s.wt (A.set x.toNat true) (mk1 st (3, x)) := by
    have hl : A.length = c.s.T.length := by rw [← e1]; exact mo.mi.len
    refine Mo.mark ⟨mo.mi.base (fun k hk => set_in (by rw [← e1]; exact hk)), mo.hl, mo.mm⟩ hg.iv (3, x) (fun _ => hx) (fun _ => ?_)
    unfold Ls_
    rw [getD_setB _ _ _ (by rw [hl]; exact hx.2.1), if_pos rfl]
  have HM : Hid (∀ w1, Below w.heap.size w w1 → Calls Tryz.prog 83 #[.pointer (some ⟨c.cp, 0, none⟩), .slice (some ⟨w1.heap.size, 0, none⟩) 1 1] (w1.alloc (.cells #[.int .i64 3, .int .i64 x] 54)) fun e w' => e = .returned (.tuple #[]) ∧ w'.cell? ⟨bx, 0, none⟩ = some (.pointer (some ⟨c.cp, 0, none⟩)) ∧
      Hid (Calls Tryz.prog 84 #[.pointer (some ⟨c.cp, 0, none⟩)] w' fun e w'' => e = .returned (.tuple #[]) ∧ ∃ F', (gaO c bx).J F' (kpg g A x) w'' ∧ Fr F w w'' ∧ ∀ k, F' k → F k ∨ w.heap.size ≤ k)) := fun w1 hb1 => by
    have hb2 := hb1.alloc hb1.size (.cells #[.int .i64 3, .int .i64 x] 54)
    refine (markX_any hg.g hg.t mo.mi.len (h.below hb2) (some ⟨w1.heap.size, 0, none⟩) 1 [(3, x)] (Rdl.one (h.below hb1) (3, x)) (fun u hu _ => by simp at hu; rw [hu]; exact hx) (by simp)).mono ?_
    rintro e w' ⟨own2, vt2, n12, rfl, g5, t5⟩
    have t2 : Tm own w own2 w' := (Tm.of hb2 (fun b hb => (h.lt b hb).2)).trans t5
    have hbx : w'.heap[bx]? = w.heap[bx]? := t2.fr.block bx lb (fun d => by omega)
    refine ⟨rfl, (World.cell?_of_block (a := ⟨bx, 0, none⟩) hbx).trans b0, ?_⟩
    refine (spreadX_any hg g5 mo2).mono ?_
    rintro e w'' ⟨own3, vt3, n13, n23, hm3, st3, rfl, g3, t3, sp⟩
    obtain ⟨q1, q2⟩ := keep_set hG mo e1 hx sp
    have tk := t2.tk.trans t3
    obtain ⟨F1, j1, tn1⟩ := tn_ct (F := F0) g3 hF0 tk.fr tk.nw
    have hb3 : w''.heap[bx]? = w.heap[bx]? := tk.fr.block bx lb (fun d => d ob)
    have n3 : ¬ F1 bx := fun d => (tn1.sub bx d).elim hn (fun d => by omega)
    exact ⟨rfl, fun k => F1 k ∨ k = bx, ⟨F1, st3, j1, q1, sp.td, q2, hb3.trans hb, n3, fun _ => Iff.rfl⟩, tn1.fr.mono (fun k d => (hF k).2 (Or.inl d)), fun k d => d.elim (fun d => (tn1.sub k d).imp (fun d => (hF k).2 (Or.inl d)) id) (fun d => Or.inl ((hF k).2 (Or.inr d)))⟩
  clear hg hG hx h hF0 e1 e2 mo hb hn hF ob bxw mo2
  go_enter Tryz.func88, Tryz.ntmps88
  go_wp2_with fail
  go_region_held3 (fun w' => w'.cell? ⟨bx, 0, none⟩ = some (.pointer (some ⟨c.cp, 0, none⟩))) (go_keep)
    (first
      | (go_at_call 74; refine (refValue_any x _).mono ?_; rintro e w1 ⟨rfl, hb1⟩; have b1 := (hb1.cell (p := ⟨bx, 0, none⟩) lb).trans b0; have HB : Hid (Below w.heap.size w w1) := (Below.refl _ w).drew.trans (hb1.mono (Nat.le_refl _)); clear hb1)
      | (go_at_call 83; refine (HM.out w1 HB.out).mono ?_; clear HM; rintro e w2 ⟨rfl, b2, HS⟩))
  all_goals
    have P := HS.out
    clear HS b0 b1 HB
    go_wp2_with fail
    refine P.mono ?_
    clear P
    rintro e w3 ⟨rfl, q⟩
    have HF : Hid (_) := q
    clear q b2
    go_wp2_with fail
    go_ret
    obtain ⟨F', q1, q2, q3⟩ := HF.out
    exact ⟨F', rfl, q1, q2, q3⟩
end

end Go.Proofs.YtogknhogphkddaaGreat

/- Settle, and the rounds of the document's cut, side by side: lists alone. -/
namespace Go.Proofs.YtogknhogphkddaaGreat
open Go.RowKit W Kp Stl

structure Sim {σ : Type} (lk : σ → En → Bool × σ) (g : List Bool → List Bool) (pe : En → En) (R : List En) (ρ : σ → List Bool → List En → Prop) : Prop where
  no : ∀ t L C e, ρ t L C → e ∈ R → isd L e.1 = false → lk t (pe e) = (false, t)
  yes : ∀ t L C e, ρ t L C → e ∈ R → isd L e.1 = true → (lk t (pe e)).1 = true ∧ ρ (lk t (pe e)).2 (kpg g L e.2) (C ++ [e])

section
variable {σ : Type} {lk : σ → En → Bool × σ} {g : List Bool → List Bool} {pe : En → En} {R : List En} {ρ : σ → List Bool → List En → Prop}

theorem Sim.pass (h : Sim lk g pe R ρ) : ∀ (l : List En) (t : σ) (L : List Bool) (C D A : List En), (∀ e ∈ l, e ∈ R) → ρ t L C →
    ρ ((l.map pe).foldl (pstep lk) (A, D.map pe, t)).2.2 (Stl.pass isd (kpg g) l L C D).1 (Stl.pass isd (kpg g) l L C D).2.1 ∧ ((l.map pe).foldl (pstep lk) (A, D.map pe, t)).2.1 = (Stl.pass isd (kpg g) l L C D).2.2.map pe ∧
    ((l.map pe).foldl (pstep lk) (A, D.map pe, t)).1.length + C.length = A.length + (Stl.pass isd (kpg g) l L C D).2.1.length
  | [], t, L, C, D, A, _, hr => ⟨hr, rfl, rfl⟩
  | e :: l, t, L, C, D, A, hl, hr => by
    have he := hl e (by simp)
    rw [List.map_cons, List.foldl_cons]
    cases c : isd L e.1
    · have e1 : pstep lk (A, D.map pe, t) (pe e) = (A, (D ++ [e]).map pe, t) := by
        unfold pstep
        rw [h.no t L C e hr he c, List.map_append]
        rfl
      rw [e1, Stl.pass, c, if_neg (by simp)]
      exact h.pass l t L C (D ++ [e]) A (fun x hx => hl x (List.mem_cons_of_mem _ hx)) hr
    · obtain ⟨y1, y2⟩ := h.yes t L C e hr he c
      have e1 : pstep lk (A, D.map pe, t) (pe e) = (A ++ [pe e], D.map pe, (lk t (pe e)).2) := by
        unfold pstep
        rw [if_pos y1]
      rw [e1, Stl.pass, c, if_pos rfl]
      obtain ⟨i1, i2, i3⟩ := h.pass l (lk t (pe e)).2 (kpg g L e.2) (C ++ [e]) D (A ++ [pe e]) (fun x hx => hl x (List.mem_cons_of_mem _ hx)) y2
      refine ⟨i1, i2, ?_⟩
      simp only [List.length_append, List.length_cons, List.length_nil] at i3
      omega
theorem pass_leftD {σ : Type} (is : σ → Int → Bool) (kp : σ → Int → σ) (e : En) : ∀ (l : List En) (s : σ) (C D : List En), e ∈ (Stl.pass is kp l s C D).2.2 → e ∈ D ∨ e ∈ l
  | [], _, _, _, h => Or.inl h
  | x :: l, s, C, D, h => by
    rw [Stl.pass] at h
    split at h
    · exact (pass_leftD is kp e l _ _ _ h).imp id (List.mem_cons_of_mem _)
    · rcases pass_leftD is kp e l _ _ _ h with d | d
      · rcases List.mem_append.1 d with d | d
        · exact Or.inl d
        · exact Or.inr (by rw [List.mem_singleton.1 d]; simp)
      · exact Or.inr (List.mem_cons_of_mem _ d)
theorem pass_left {σ : Type} (is : σ → Int → Bool) (kp : σ → Int → σ) (l : List En) (s : σ) (C : List En) (e : En) (h : e ∈ (Stl.pass is kp l s C []).2.2) : e ∈ l :=
  (pass_leftD is kp e l s C [] h).resolve_left (by simp)
theorem Sim.turns (h : Sim lk g pe R ρ) : ∀ (n : Nat) (D : List En) (t : σ) (L : List Bool) (C : List En), (∀ e ∈ D, e ∈ R) → ρ t L C →
    ρ (trn lk n t (D.map pe)).1 (Stl.turns isd (kpg g) n D L C).1 (Stl.turns isd (kpg g) n D L C).2.1 ∧ (trn lk n t (D.map pe)).2 = (Stl.turns isd (kpg g) n D L C).2.2.map pe
  | 0, D, t, L, C, _, hr => ⟨hr, rfl⟩
  | n + 1, D, t, L, C, hD, hr => by
    obtain ⟨p1, p2, p3⟩ := h.pass D t L C [] [] hD hr
    have p1 : ρ (pts lk t (D.map pe)).2.2 (Stl.pass isd (kpg g) D L C []).1 (Stl.pass isd (kpg g) D L C []).2.1 := p1
    have p2 : (pts lk t (D.map pe)).2.1 = (Stl.pass isd (kpg g) D L C []).2.2.map pe := p2
    have p3 : (pts lk t (D.map pe)).1.length + C.length = 0 + (Stl.pass isd (kpg g) D L C []).2.1.length := p3
    by_cases c : (pts lk t (D.map pe)).1.length = 0
    · rw [trn_stop _ _ _ _ c, turns_stop (by omega)]
      exact ⟨p1, p2⟩
    · rw [trn_go _ _ _ _ c, turns_go (by omega), p2]
      exact h.turns n _ _ _ _ (fun e he => hD e (pass_left _ _ D L C e he)) p1
end

theorem trn_more {σ : Type} (lk : σ → En → Bool × σ) : ∀ (n k : Nat) (t : σ) (d : List En), d.length < n → d.length < k → trn lk n t d = trn lk k t d
  | 0, _, _, _, h, _ => absurd h (by omega)
  | _ + 1, 0, _, _, _, h => absurd h (by omega)
  | n + 1, k + 1, t, d, h1, h2 => by
    have hl := pts_len lk t d
    by_cases c : (pts lk t d).1.length = 0
    · rw [trn_stop _ _ _ _ c, trn_stop _ _ _ _ c]
    · rw [trn_go _ _ _ _ c, trn_go _ _ _ _ c]
      exact trn_more lk n k _ _ (by omega) (by omega)
end Go.Proofs.YtogknhogphkddaaGreat

/- At, Copy of a Side: contracts. -/
namespace Go.Proofs.YtogknhogphkddaaGreat
open Go.RowKit W Kp Stl

set_option maxRecDepth 100000 in
set_option maxHeartbeats 1000000 in
theorem copyS_any (w : World) (p : Nat) (a0 a1 : Option Addr) (k0 k1 : Nat) (r q : List En) (h : Sds w p a0 k0 a1 k1 r q) (h0 : r.length ≤ 90000) (h1 : q.length ≤ 90000) :
    Calls Tryz.prog 85 #[.pointer (some ⟨p, 0, none⟩)] w fun e w' => ∃ p' b0 c0 b1 c1, e = .returned (.pointer (some ⟨p', 0, none⟩)) ∧ w.heap.size ≤ p' ∧ Sds w' p' b0 c0 b1 c1 r q ∧ (∀ z, b0 = some z → w.heap.size ≤ z.block) ∧ (∀ z, b1 = some z → w.heap.size ≤ z.block) ∧ (∀ k, some k = (Value.slice b0 r.length c0).ownBlock → some k ≠ (Value.slice b1 q.length c1).ownBlock) ∧ Below w.heap.size w w' := by
  obtain ⟨c0, c1, f0, f1, lp⟩ := h.cells
  have HR : Hid (Li w a0 r k0) := row_li h.r0
  have HQ : Hid (Li w a1 q k1) := row_li h.q0
  clear h f0 f1
  go_enter Tryz.func85, Tryz.ntmps85
  go_wp2_with fail
  have hd := (Below.refl w.heap.size w).drew
  go_region_held3 (fun w' => w'.cell? ⟨p, 0, none⟩ = some (.slice a0 r.length k0) ∧ w'.cell? ⟨p, 1, none⟩ = some (.slice a1 q.length k1)) (first | exact ⟨c0, c1⟩ | exact ⟨u0, u1⟩ | exact ⟨v0, v1⟩ | go_keep)
    (first | (have hb8 := hb3; go_at_call 98; refine (cloneE_any _ a1 q k1 (HQ.out.below hb3) (by omega)).mono ?_; rintro e w5 ⟨d1, e1, rfl, hQ5, hb5⟩; have l5 := hb5.size; have v0 := (hb5.cell (p := ⟨p, 0, none⟩) (Nat.lt_of_lt_of_le lp l3)).trans u0; have v1 := (hb5.cell (p := ⟨p, 1, none⟩) (Nat.lt_of_lt_of_le lp l3)).trans u1)
           | (go_at_call 98; refine (cloneE_any _ a0 r k0 (HR.out.below hd) (by omega)).mono ?_; rintro e w3 ⟨d0, e0, rfl, hR3, hb3'⟩; have hb3 : Below w.heap.size w w3 := hd.trans hb3'; have l3 := hb3.size; have u0 := (hb3.cell (p := ⟨p, 0, none⟩) lp).trans c0; have u1 := (hb3.cell (p := ⟨p, 1, none⟩) lp).trans c1))
  go_wp2_with fail
  go_ret
  refine ⟨w5.heap.size, d0, e0, d1, e1, rfl, Nat.le_trans l3 l5, ⟨heap_alloc_new _ _, row_base (row_alloc (row_keep hR3 (fun k e => hb5.block k (row_lt hR3 k e).2)) _) (fun _ _ => Nat.zero_le _), row_base (row_alloc hQ5 _) (fun _ _ => Nat.zero_le _)⟩, fun z e => (row_lt hR3 z.block (by rw [e]; rfl)).1, fun z e => Nat.le_trans l3 (row_lt hQ5 z.block (by rw [e]; rfl)).1, fun k e e' => ?_, (hb3.trans (hb5.mono l3)).alloc (Nat.le_trans l3 l5) _⟩
  have q1 := (row_lt hR3 k e).2
  have q2 := (row_lt hQ5 k e').1
  omega

end Go.Proofs.YtogknhogphkddaaGreat

/- A grove's cut in memory: settled: a contract. -/
namespace Go.Proofs.YtogknhogphkddaaGreat
open Go.RowKit W Kp Stl

section
variable {c : Cp} {bx p : Nat} {vr : Value} {g : List Bool → List Bool} {A : List Bool} {q r : List En}

abbrev gIs (s : List Bool × List En) (x : Int) : Bool := isd s.1 x
abbrev gKp (g : List Bool → List Bool) (s : List Bool × List En) (x : Int) : Int × (List Bool × List En) := (x, (kpg g s.1 x, s.2))
abbrev gNw (_ : List Bool × List En) (x : Int) : Int := x
def gT (g : List Bool → List Bool) (A : List Bool) (r : List En) : List Bool × List En × List En := turns isd (kpg g) (r.length + 1) (r.filter (fun e => !isd A e.2)) A []

theorem sim_g (q : List En) : Sim (cm (mkSd (gaO c bx) p vr) gIs (gKp g)) g id r (fun t L C => t = (L, q ++ C)) where
  no := by
    rintro t L C e rfl _ h
    exact cm_no h
  yes := by
    rintro t L C e rfl _ h
    have e1 := cm_yes (o := mkSd (gaO c bx) p vr) (is := gIs) (kp := gKp g) (s := (L, q ++ C)) (e := e) h
    refine ⟨by rw [id, e1], ?_⟩
    rw [id, e1]
    show (kpg g L e.2, (q ++ C) ++ [(e.1, e.2)]) = _
    rw [List.append_assoc]
theorem st_g : stS (mkSd (gaO c bx) p vr) gIs (gKp g) (A, q) r = ((gT g A r).1, q ++ (gT g A r).2.1) := by
  have h := ((sim_g (c := c) (bx := bx) (p := p) (vr := vr) (g := g) (r := r) q).turns (r.length + 1) (r.filter (fun e => !isd A e.2)) (A, q) A [] (fun e he => (List.mem_filter.1 he).1) (by rw [List.append_nil])).1
  rw [List.map_id] at h
  refine Eq.trans ?_ h
  show (trn (cm (mkSd (gaO c bx) p vr) gIs (gKp g)) ((r.filter (fun e => !isd A e.2)).length + 1) (A, q) (r.filter (fun e => !isd A e.2))).1 = _
  have hl := List.length_filter_le (fun e : En => !isd A e.2) r
  rw [trn_more (cm (mkSd (gaO c bx) p vr) gIs (gKp g)) _ (r.length + 1) _ _ (Nat.lt_succ_self _) (by omega)]
theorem st_gR : stR (mkSd (gaO c bx) p vr) gIs (gKp g) gNw (A, q) r = r.filter (fun e => isd A e.2 && isd (gT g A r).1 e.1) := by
  unfold stR
  rw [st_g, List.filter_filter, List.map_id'']
  · congr 1
    funext e
    rw [Bool.and_comm]
  · exact fun _ => rfl
theorem st_gQ : stQ (mkSd (gaO c bx) p vr) gIs (gKp g) gNw (A, q) r = (q ++ (gT g A r).2.1).filter (fun e => isd (gT g A r).1 e.1) := by
  unfold stQ
  rw [st_g]
  show List.map (fun e : En => (e.1, e.2)) _ = _
  rw [List.map_id'' (fun _ => rfl)]
  rfl
theorem came_sub (e : En) (h : e ∈ (gT g A r).2.1) : e ∈ r := by
  have h1 := turns_count (is := isd) (kp := kpg g) e (r.length + 1) (r.filter (fun e => !isd A e.2)) A []
  have h2 : 0 < (gT g A r).2.1.count e := List.count_pos_iff.2 h
  unfold gT at h2
  rw [List.count_nil] at h1
  have h3 : 0 < (r.filter (fun e => !isd A e.2)).count e := by omega
  exact (List.mem_filter.1 (List.count_pos_iff.1 h3)).1
end

section
variable {c : Cp} {own own' : Nat → Nat} {vt vt' : Value} {n1 n2 n1' n2' : Nat} {hm hm' : Int → Option Addr × Nat} {st : Cst} {w w' : World} {is : List Bool} {g : List Bool → List Bool}

set_option maxRecDepth 100000 in
set_option maxHeartbeats 4000000 in
theorem settledX_any (hg : Cg c) (hG : Gok c.s.T c.s.wt g) (hv : Wcv c.s) (h : Cm c own vt n1 n2 hm st w) (mo : Mo c.s.T c.s.wt st.A st) (e0 : st.td = []) :
    Calls Tryz.prog 69 #[.pointer (some ⟨c.cp, 0, none⟩)] w fun e w' => ∃ own' vt' n1' n2' hm' st' p a1 k1 a2 k2, e = .returned (.pointer (some ⟨p, 0, none⟩)) ∧ Cm c own' vt' n1' n2' hm' st' w' ∧ st'.A = (gT g st.A c.s.rg).1 ∧ st'.td = [] ∧ Mo c.s.T c.s.wt st'.A st' ∧ Tk own w own' w' ∧
      Sds w' p a1 k1 a2 k2 (c.s.rg.filter (fun e => isd st.A e.2 && isd (gT g st.A c.s.rg).1 e.1)) ((c.s.wt ++ (gT g st.A c.s.rg).2.1).filter (fun e => isd (gT g st.A c.s.rg).1 e.1)) ∧
      (w.heap.size ≤ p ∧ own' p = 0) ∧ (∀ k, some k = (Value.slice a1 (c.s.rg.filter (fun e => isd st.A e.2 && isd (gT g st.A c.s.rg).1 e.1)).length k1).ownBlock → w.heap.size ≤ k ∧ own' k = 0 ∧ some k ≠ (Value.slice a2 ((c.s.wt ++ (gT g st.A c.s.rg).2.1).filter (fun e => isd (gT g st.A c.s.rg).1 e.1)).length k2).ownBlock) ∧
      (∀ k, some k = (Value.slice a2 ((c.s.wt ++ (gT g st.A c.s.rg).2.1).filter (fun e => isd (gT g st.A c.s.rg).1 e.1)).length k2).ownBlock → w.heap.size ≤ k ∧ own' k = 0) := by
  have b1 := (Below.refl w.heap.size w).alloc (Nat.le_refl _) (.cells #[.pointer (some ⟨c.cp, 0, none⟩)] 135)
  obtain ⟨c0, _, _, _, _, lc⟩ := h.cells
  have gv := h.gv hg.g
  obtain ⟨_, _, _, _, _, g5, _, _, lg⟩ := gv.cells
  have P := copyS_any _ c.l.bp c.l.a0 c.l.a1 c.l.k0 c.l.k1 c.s.rg c.s.wt ((h.below b1).gv hg.g).g3.sd (Nat.le_trans hv.gl (by decide)) (Nat.le_trans hv.wl (by decide))
  have ow : own w.heap.size = 0 := by
    cases e : own w.heap.size
    · rfl
    · exact absurd (h.lt w.heap.size (by rw [e]; omega)).2 (by omega)
  have HP : Hid (∀ w1 p b0 k0 b1 k1, Below w.heap.size w w1 → w1.heap[w.heap.size]? = some (.cells #[.pointer (some ⟨c.cp, 0, none⟩)] 135 (0, 0)) → w.heap.size + 1 ≤ p → Sds w1 p b0 k0 b1 k1 c.s.rg c.s.wt → (∀ z, b0 = some z → w.heap.size + 1 ≤ z.block) → (∀ z, b1 = some z → w.heap.size + 1 ≤ z.block) → (∀ k, some k = (Value.slice b0 c.s.rg.length k0).ownBlock → some k ≠ (Value.slice b1 c.s.wt.length k1).ownBlock) →
      Calls Tryz.prog 86 #[.pointer (some ⟨p, 0, none⟩), .agg #[.func (.func 87) #[.pointer (some ⟨c.cp, 0, none⟩)] #[], .func (.func 88) #[] #[.pointer (some ⟨w.heap.size, 0, none⟩)], .func (.func 89) #[] #[]]] w1 fun e w' => ∃ own' vt' n1' n2' hm' st' a1 k1 a2 k2, e = .returned (.tuple #[]) ∧ Cm c own' vt' n1' n2' hm' st' w' ∧ st'.A = (gT g st.A c.s.rg).1 ∧ st'.td = [] ∧ Mo c.s.T c.s.wt st'.A st' ∧ Tk own w own' w' ∧
        Sds w' p a1 k1 a2 k2 (c.s.rg.filter (fun e => isd st.A e.2 && isd (gT g st.A c.s.rg).1 e.1)) ((c.s.wt ++ (gT g st.A c.s.rg).2.1).filter (fun e => isd (gT g st.A c.s.rg).1 e.1)) ∧
        (w.heap.size ≤ p ∧ own' p = 0) ∧ (∀ k, some k = (Value.slice a1 (c.s.rg.filter (fun e => isd st.A e.2 && isd (gT g st.A c.s.rg).1 e.1)).length k1).ownBlock → w.heap.size ≤ k ∧ own' k = 0 ∧ some k ≠ (Value.slice a2 ((c.s.wt ++ (gT g st.A c.s.rg).2.1).filter (fun e => isd (gT g st.A c.s.rg).1 e.1)).length k2).ownBlock) ∧
        (∀ k, some k = (Value.slice a2 ((c.s.wt ++ (gT g st.A c.s.rg).2.1).filter (fun e => isd (gT g st.A c.s.rg).1 e.1)).length k2).ownBlock → w.heap.size ≤ k ∧ own' k = 0)) := by
    intro w1 p d0 k0 d1 k1 hb hbx hp hS hd0 hd1 hdn
    have hF0 : ∀ k, ((k < c.w0.heap.size ∨ own k ≠ 0) ∨ k = w.heap.size) → k < w.heap.size + 1 := fun k hk => by
      have hz := h.sz
      rcases hk with (d | d) | d
      · omega
      · have := (h.lt k d).2
        omega
      · omega
    have nq : ∀ k, some k = (Value.slice d1 c.s.wt.length k1).ownBlock → w.heap.size + 1 ≤ k := fun k e => by
      cases d1 with
      | none => cases e
      | some z => cases e; exact hd1 z rfl
    have JG : (gaO c w.heap.size).J (fun k => (k < c.w0.heap.size ∨ own k ≠ 0) ∨ k = w.heap.size) st.A w1 := ⟨fun k => k < c.w0.heap.size ∨ own k ≠ 0, st, ⟨own, vt, n1, n2, hm, h.below hb, fun _ => Iff.rfl⟩, rfl, e0, mo, hbx, fun d => by
      have hz := h.sz
      rcases d with d | d
      · omega
      · exact d ow, fun _ => Iff.rfl⟩
    have JS : (mkSd (gaO c w.heap.size) p (.slice d0 c.s.rg.length k0)).J (fun k => ((k < c.w0.heap.size ∨ own k ≠ 0) ∨ k = w.heap.size) ∨ k = p ∨ some k = (Value.slice d1 c.s.wt.length k1).ownBlock) (st.A, c.s.wt) w1 := ⟨_, d1, k1, JG, hS.blk, hS.q0, fun k d => Or.inl d, Or.inr (Or.inl rfl), fun d => by have := hF0 p d; omega, fun k e => ⟨Or.inr (Or.inr e), fun d => by have h1 := hF0 k d; have h2 := nq k e; omega⟩, fun k d => by
      have hz := hb.size
      have hz2 := lt_of_some hbx
      rcases d with d | d | d
      · have := hF0 k d
        omega
      · rw [d]
        exact lt_of_some hS.blk
      · exact (row_lt hS.q0 k d).2⟩
    have gD : ∀ e ∈ c.s.rg, Dx c e.1 ∧ Dx c e.2 := fun e he => ⟨(hv.gv e he).1, (hv.gv e he).2⟩
    have P := settle_more (mkSd (gaO c w.heap.size) p (.slice d0 c.s.rg.length k0)) (Dx c) ⟨87, #[.pointer (some ⟨c.cp, 0, none⟩)], #[]⟩ ⟨88, #[], #[.pointer (some ⟨w.heap.size, 0, none⟩)]⟩ ⟨89, #[], #[]⟩ gIs (gKp g) gNw
      (lks_mk (gaO c w.heap.size) p _ (Dx c) _ _ _ isd (fun A x => (x, kpg g A x)) (fun _ x => x) ent_alive ent_keepX ent_nowX (alivesX hg) (keepsX hg hG) tellsX) c.s.rg d0 k0 rfl (Nat.le_trans hv.gl (by decide)) gD _ (st.A, c.s.wt) w1 (by
        rw [st_g]
        intro e he
        rcases List.mem_append.1 he with he | he
        · exact ⟨hv.wg e he, hg.iv.wv e he⟩
        · exact gD e (came_sub e he)) (by have h1 := hv.gl; have h2 := hv.wl; show c.s.wt.length + _ ≤ _; omega) JS (row_pairs hS.r0)
    rw [st_gR, st_gQ, st_g] at P
    refine P.mono ?_
    clear P
    rintro e w' ⟨a1, e1, a2, e2, F1, wm, rfl, ⟨F0m, adm, capm, ⟨F0n, st', ⟨own', vt', n1', n2', hm', gm, hFn⟩, eA, eT, moA, hbm, hnm, hFm⟩, _, _, sub1, _, np, _, _⟩, same, szm, hblk, hr1, hr2, fr, subF, nr1, nr2, n12⟩
    have inF : ∀ b, b < c.w0.heap.size ∨ own' b ≠ 0 → F1 b ∧ b ≠ p := fun b hb' => by
      have h1 : F0m b := (hFm b).2 (Or.inl ((hFn b).2 hb'))
      exact ⟨sub1 b h1, fun e => np (by rw [← e]; exact h1)⟩
    have g' : Cm c own' vt' n1' n2' hm' st' w' := gm.keep szm (fun b hb' => same b (inF b hb').1 (inF b hb').2)
    have z0 : ∀ b, ¬ F1 b → own' b = 0 := fun b hb' => by
      cases e : own' b
      · rfl
      · exact absurd (inF b (Or.inr (by rw [e]; omega))).1 hb'
    have zp : own' p = 0 := by
      cases e : own' p
      · rfl
      · exact absurd rfl (inF p (Or.inr (by rw [e]; omega))).2
    have hz1 := hb.size
    have hsz := h.sz
    have tk : Tk own w own' w' := by
      refine ⟨⟨fr.os.trans hb.os, fr.tape.trans hb.tape, fr.output.trans hb.output, Nat.le_trans hz1 fr.size, fun k hk hn => ?_⟩, fun b hb' => ?_⟩
      · by_cases hk0 : k < c.w0.heap.size
        · exact (g'.ol k hk0).trans (h.ol k hk0).symm
        · refine (fr.block k (by omega) (fun d => ?_)).trans (hb.block k hk)
          rcases d with ((d | d) | d) | d | d
          · exact hk0 d
          · exact hn d
          · omega
          · omega
          · have := nq k d
            omega
      · rcases subF b (inF b (Or.inr hb')).1 with d | d
        · rcases d with ((d | d) | d) | d | d
          · have := (g'.lt b hb').1
            omega
          · exact Or.inl d
          · exact Or.inr (by omega)
          · exact Or.inr (by omega)
          · have := nq b d
            exact Or.inr (by omega)
        · exact Or.inr (by omega)
    refine ⟨own', vt', n1', n2', hm', st', a1, e1, a2, e2, rfl, g', eA, eT, by rw [eA]; exact moA, tk, ⟨hblk, row_base hr1 (fun _ _ => Nat.zero_le _), row_base hr2 (fun _ _ => Nat.zero_le _)⟩, ⟨by omega, zp⟩, fun k e => ⟨?_, z0 k (nr1 k e), n12 k e⟩, fun k e => ⟨?_, z0 k (nr2 k e)⟩⟩
    · have := (row_lt hr1 k e).1
      omega
    · have := (row_lt hr2 k e).1
      omega
  clear gv hg hG hv h mo e0
  generalize (c.s.rg.filter (fun e => isd st.A e.2 && isd (gT g st.A c.s.rg).1 e.1)) = RR at *
  generalize ((c.s.wt ++ (gT g st.A c.s.rg).2.1).filter (fun e => isd (gT g st.A c.s.rg).1 e.1)) = QQ at *
  go_enter Tryz.func69, Tryz.ntmps69
  go_wp2_with fail
  refine P.mono ?_
  clear P
  rintro e w1 ⟨p, d0, k0, d1, k1, rfl, hp, hS, h0, h1, hn, hb⟩
  have hbx := (hb.block w.heap.size (by simp)).trans (heap_alloc_new w (.cells #[.pointer (some ⟨c.cp, 0, none⟩)] 135))
  have hz : (w.alloc (.cells #[.pointer (some ⟨c.cp, 0, none⟩)] 135)).heap.size = w.heap.size + 1 := by simp
  rw [hz] at hp h0 h1
  have x0 : w1.cell? ⟨w.heap.size, 0, none⟩ = some (.pointer (some ⟨c.cp, 0, none⟩)) := by simp [World.cell?, hbx]
  have P := HP.out w1 p d0 k0 d1 k1 (b1.trans (hb.mono b1.size)) hbx hp hS h0 h1 hn
  clear hb hS h0 h1 hn hbx b1 HP
  go_wp2_with fail
  refine P.mono ?_
  clear P
  rintro e w2 ⟨own', vt', n1', n2', hm', st', a1, k1_, a2, k2, rfl, q⟩
  have HF : Hid (_) := q
  clear q
  go_wp2_with fail
  go_ret
  exact ⟨own', vt', n1', n2', hm', st', p, a1, k1_, a2, k2, rfl, HF.out⟩
end

end Go.Proofs.YtogknhogphkddaaGreat

/- A grove behind a cut: lists, and memory. -/
namespace Go.Proofs.YtogknhogphkddaaGreat
open Go.RowKit W Kp Stl

section
variable {T : List Tw1} {A : List Bool} {fm : Fm}
theorem cuL_all (i : Nat) : (cuL A T T.length).getD i t0 = if i < T.length then cuT A i (T.getD i t0) else t0 := by
  by_cases hi : i < T.length
  · rw [cuL_get A T T.length i (Nat.le_refl _) hi, if_pos hi, if_pos hi]
  · rw [if_neg hi, List.getD_eq_getElem?_getD, List.getElem?_eq_none (by rw [cuL_len]; omega)]
    rfl
theorem cuL_alv (hA : Sok_ T A) (i : Nat) : Alv (cuL A T T.length) i ↔ Ls_ A i := by
  unfold Alv
  rw [cuL_len, cuL_all]
  constructor
  · rintro ⟨h1, h2⟩
    rw [if_pos h1] at h2
    unfold cuT at h2
    split at h2
    · assumption
    · cases h2
  · intro h
    have hi := hA.al i h
    refine ⟨hi.1, ?_⟩
    rw [if_pos hi.1]
    unfold cuT
    rw [if_pos (show A.getD i false = true from h)]
    exact hi.2
theorem cuL_yes (hA : Sok_ T A) {i : Nat} (h : Ls_ A i) : (cuL A T T.length).getD i t0 = ((T.getD i t0).1, bkF A (T.getD i t0), true, (T.getD i t0).2.2.2) := by
  rw [cuL_all, if_pos (hA.al i h).1]
  unfold cuT
  rw [if_pos (show A.getD i false = true from h)]
  rfl
theorem bkF_len (hB : Bkt T A) {i : Nat} (h : Ls_ A i) : (bkF A (T.getD i t0)).length = (T.getD i t0).2.1.length := by
  unfold bkF
  split
  · rename_i e
    rw [hB.l2 i h (Or.inr e.1)]
    rfl
  · split
    · rename_i e
      rw [hB.l2 i h (Or.inl e.1)]
      rfl
    · rfl
theorem gvF_cut (hA : Sok_ T A) (hB : Bkt T A) : gvF (cuL A T T.length) fm = alF T fm A := by
  funext x
  by_cases h : 0 ≤ x ∧ Ls_ A x.toNat
  · rw [gvF_yes ⟨h.1, (cuL_alv hA _).2 h.2⟩]
    unfold alF
    rw [if_pos (show 0 ≤ x ∧ A.getD x.toNat false = true from h)]
    dsimp only [thV, fsV]
    rw [cuL_yes hA h.2]
    dsimp only
    rw [bkF_len hB h.2]
  · rw [gvF_no (fun d => h ⟨d.1, (cuL_alv hA _).1 d.2⟩)]
    unfold alF
    rw [if_neg (show ¬ (0 ≤ x ∧ A.getD x.toNat false = true) from h)]
end

section
variable {gp : Nat} {most grow : Int} {l : Gl} {s : Wrs} {w w' : World} {A : List Bool} {ab p n1 : Nat} {a1 a2 : Option Addr} {k1 k2 : Nat} {r q : List En}
theorem Gvy.cut (h : Gvy gp most grow l s w) (hA : Sok_ s.T A) (hB : Bkt s.T A) (hz : w.heap.size ≤ w'.heap.size) (hk : ∀ b, l.own b = 4 → w'.heap[b]? = w.heap[b]?)
    (hb : w'.heap[gp]? = some (.cells #[.int .i64 most, .int .i64 grow, .map (some ab), .int .i64 s.T.length, .int .i64 s.T.length, .pointer (some ⟨p, 0, none⟩), .slice (some ⟨l.rb, 0, none⟩) 12 12] 56 (0, 0)))
    (hM : Mh w' ab n1 (alF s.T l.fm A)) (hn : n1 ≤ s.T.length) (hr : ∀ i, Ls_ A i → w'.ownsRow 0 54 2 (fsV s.T l.fm i) (s.T.getD i t0).2.1.length (ev (bkF A (s.T.getD i t0)))) (hS : Sds w' p a1 k1 a2 k2 r q)
    (n0 : w.heap.size ≤ ab ∧ w.heap.size ≤ p) (nr : ∀ k, some k = (Value.slice a1 r.length k1).ownBlock → w.heap.size ≤ k) (nq : ∀ k, some k = (Value.slice a2 q.length k2).ownBlock → w.heap.size ≤ k) (nn : ∀ k, some k = (Value.slice a1 r.length k1).ownBlock → some k ≠ (Value.slice a2 q.length k2).ownBlock) :
    ∃ l', Gvy gp most grow l' { T := cuL A s.T s.T.length, rs := s.rs, rg := r, wt := q } w' ∧ ∀ b, l'.own b ≠ 0 → l.own b ≠ 0 ∨ w.heap.size ≤ b := by
  have npa : p ≠ ab := fun e => by
    obtain ⟨es, k, hm⟩ := hM.blk
    have h1 := hS.blk
    rw [e, hm] at h1
    cases h1
  have nra : ∀ b n (v : Value) (x : List Value), w'.ownsRow b 100 2 v n x → ∀ k, some k = v.ownBlock → k ≠ ab ∧ k ≠ p := fun b n v x hx k e => by
    obtain ⟨cs, hc⟩ := row_type hx k e
    refine ⟨fun d => ?_, hS.np hx k e⟩
    obtain ⟨es, k', hm⟩ := hM.blk
    rw [d, hm] at hc
    cases hc
  have he : ∀ b, l.own b ≠ 0 → (if w.heap.size ≤ b then (if b = ab then 2 else if b = p then 3 else if some b = (Value.slice a1 r.length k1).ownBlock then 5 else if some b = (Value.slice a2 q.length k2).ownBlock then 6 else 0) else l.own b) = l.own b := fun b hb => if_neg (by have := h.lt b hb; omega)
  refine ⟨{ own := fun b => if w.heap.size ≤ b then (if b = ab then 2 else if b = p then 3 else if some b = (Value.slice a1 r.length k1).ownBlock then 5 else if some b = (Value.slice a2 q.length k2).ownBlock then 6 else 0) else l.own b, mb := ab, bp := p, rb := l.rb, fm := l.fm, ag := s.T.length, n := n1, a0 := a1, k0 := k1, a1 := a2, k1 := k2 }, ?_, fun b hb' => ?_⟩
  · refine { blk := ?_, bo := (he gp (by rw [h.bo]; decide)).trans h.bo, g2 := ?_, g3 := ?_, g4 := ?_, lt := fun b hb' => ?_ }
    · dsimp only
      rw [hb, cuL_len]
    · refine { mp := ?_, mn := by dsimp only; rw [cuL_len]; exact hn, mo := ?_, fl := fun i hi => ?_, fo := fun i hi k e => ?_, ag := fun i hi => ?_, al := by dsimp only; rw [cuL_len]; exact Nat.le_refl _ }
      · dsimp only
        rw [gvF_cut hA hB]
        exact hM
      · show (if _ then _ else _) = _
        rw [if_pos n0.1, if_pos rfl]
      · have hi := (cuL_alv hA i).1 hi
        have h1 := hr i hi
        dsimp only [fsV] at h1 ⊢
        rw [cuL_yes hA hi]
        dsimp only
        rw [bkF_len hB hi]
        exact h1
      · have hi := (cuL_alv hA i).1 hi
        dsimp only [fsV] at e
        rw [cuL_yes hA hi] at e
        dsimp only at e
        rw [bkF_len hB hi] at e
        have h2 := h.g2.fo i (hA.al i hi) k e
        exact (he k (by rw [h2]; omega)).trans h2
      · have hi := (cuL_alv hA i).1 hi
        dsimp only
        rw [cuL_yes hA hi]
        have := (hA.al i hi).1
        simp [this]
    · refine { sd := hS, so := ?_, ro := fun k e => ?_, qo := fun k e => ?_ }
      · show (if _ then _ else _) = _
        rw [if_pos n0.2, if_neg npa, if_pos rfl]
      · obtain ⟨x1, x2⟩ := nra _ _ _ _ hS.r0 k e
        show (if _ then _ else _) = _
        rw [if_pos (nr k e), if_neg x1, if_neg x2, if_pos e]
      · obtain ⟨x1, x2⟩ := nra _ _ _ _ hS.q0 k e
        show (if _ then _ else _) = _
        rw [if_pos (nq k e), if_neg x1, if_neg x2, if_neg (fun d => nn k d e), if_pos e]
    · exact { rt := (hk _ h.g4.ro).trans h.g4.rt, rl := h.g4.rl, ro := (he _ (by rw [h.g4.ro]; decide)).trans h.g4.ro }
    · dsimp only at hb'
      split at hb'
      · split at hb'
        · rename_i e
          rw [e]
          exact hM.lt
        · split at hb'
          · rename_i e
            rw [e]
            exact lt_of_some hS.blk
          · split at hb'
            · rename_i e
              exact (row_lt hS.r0 b e).2
            · split at hb'
              · rename_i e
                exact (row_lt hS.q0 b e).2
              · exact absurd rfl hb'
      · exact Nat.lt_of_lt_of_le (h.lt b hb') hz
  · dsimp only at hb'
    split at hb'
    · exact Or.inr ‹_›
    · exact Or.inl hb'
end

end Go.Proofs.YtogknhogphkddaaGreat
