/- Joined: Gx17, Gx18, Gx19. -/
import Derived.Test.YtogknhogphkddaaGreatJ24
import Derived.Test.YtogknhogphkddaaGreatJ22
import Derived.Test.YtogknhogphkddaaGreatJ14
import Derived.Test.YtogknhogphkddaaGreatJ02
/- A grove's cut in memory: cutBack: a contract. -/
namespace Go.Proofs.YtogknhogphkddaaGreat
open Go.RowKit W Kp Stl

section
variable {gp : Nat} {most grow : Int} {l : Gl} {F : Nat → Prop} {s : Wrs} {w : World} {g : List Bool → List Bool}

abbrev cpOf (w : World) (gp : Nat) (most grow : Int) (l : Gl) (s : Wrs) : Cp := ⟨w, gp, most, grow, l, s, w.heap.size + 1 + 1, w.heap.size, w.heap.size + 1⟩
abbrev stOf (s : Wrs) : Cst := ⟨List.replicate s.T.length false, [], fun _ => [], 0⟩
def owOf (w : World) (b : Nat) : Nat := if b = w.heap.size then 2 else if b = w.heap.size + 1 then 4 else if b = w.heap.size + 1 + 1 then 1 else 0
theorem cnt_rep : ∀ n, cnt (List.replicate n false) = n
  | 0 => rfl
  | n + 1 => by
    have := cnt_rep n
    unfold cnt at this ⊢
    rw [List.replicate_succ]
    simp at this ⊢
theorem Cm.start (w : World) (gp : Nat) (most grow : Int) (l : Gl) (s : Wrs) :
    Cm (cpOf w gp most grow l s) (owOf w) (.slice none 0 0) 0 0 (fun _ => (none, 0)) (stOf s) (((w.alloc (.map #[] 0)).alloc (.map #[] 0)).alloc (.cells #[.pointer (some ⟨gp, 0, none⟩), .map (some w.heap.size), .slice none 0 0, .map (some (w.heap.size + 1))] 138)) := by
  have bb : Below w.heap.size w (((w.alloc (.map #[] 0)).alloc (.map #[] 0)).alloc (.cells #[.pointer (some ⟨gp, 0, none⟩), .map (some w.heap.size), .slice none 0 0, .map (some (w.heap.size + 1))] 138)) := (((Below.refl _ _).alloc (Nat.le_refl _) _).alloc (by simp) _).alloc (by simp; omega) _
  have m1 := (Mh.made w)
  have m2 := (Mh.made (w.alloc (.map #[] 0)))
  have hz : (w.alloc (.map #[] 0)).heap.size = w.heap.size + 1 := by simp
  rw [hz] at m2
  have ea : (fun _ => none) = alF s.T l.fm (List.replicate s.T.length false) := by
    funext x
    unfold alF
    rw [if_neg]
    rintro ⟨_, h⟩
    rw [List.getD_eq_getElem?_getD, List.getElem?_replicate] at h
    split at h <;> cases h
  have eh : (fun _ => none) = hdF (fun _ => []) (fun _ => (none, 0)) := rfl
  refine { ol := fun k hk => bb.block k hk, sz := bb.size, cb := alloc_trd w _ _ _, co := ?_, am := ?_, ao := ?_, an := ?_, tr := ⟨rfl, Or.inl ⟨rfl, rfl⟩⟩, tw := fun k e => (by cases e), tn := ?_, hq := ?_, ho := ?_, hn := Nat.le_refl _, hr := fun x hx => absurd rfl hx, hro := fun x hx => absurd rfl hx, lt := fun b hb => ?_ }
  · show owOf w (w.heap.size + 1 + 1) = 1
    unfold owOf
    rw [if_neg (by omega), if_neg (by omega), if_pos rfl]
  · show Mh _ w.heap.size 0 (alF s.T l.fm (List.replicate s.T.length false))
    rw [← ea]
    exact m1.same ((Below.heap_alloc _ _ _ (by simp; omega)).trans (Below.heap_alloc _ _ _ (by simp)))
  · show owOf w w.heap.size = 2
    unfold owOf
    rw [if_pos rfl]
  · show 0 + cnt (List.replicate s.T.length false) ≤ s.T.length
    rw [cnt_rep]
    omega
  · show 0 + cnt (List.replicate s.T.length false) ≤ s.T.length
    rw [cnt_rep]
    omega
  · show Mh _ (w.heap.size + 1) 0 (hdF (fun _ => []) (fun _ => (none, 0)))
    rw [← eh]
    exact m2.same (Below.heap_alloc _ _ _ (by simp))
  · show owOf w (w.heap.size + 1) = 4
    unfold owOf
    rw [if_neg (by omega), if_pos rfl]
  · unfold owOf at hb
    show w.heap.size ≤ b ∧ _
    simp
    split at hb
    · omega
    · split at hb
      · omega
      · split at hb
        · omega
        · exact absurd rfl hb
theorem cg_of (h : Gvy gp most grow l s w) (hv : Wcv s) : Cg (cpOf w gp most grow l s) := ⟨h, hv.tl, hv.iv, Nat.le_trans hv.wl (by decide)⟩
theorem bkt_of (hv : Wcv s) {A : List Bool} (hA : Sok_ s.T A) : Bkt s.T A := ⟨fun i hi hk => hv.iv.fl i (hA.al i hi) hk, fun i hi h3 => by
  have hl : 0 < (s.T.getD i t0).2.1.length := by
    cases hq : (s.T.getD i t0).2.1 with
    | nil => rw [hq] at h3; cases h3
    | cons _ _ => simp
  obtain ⟨a, b⟩ := hv.iv.fv i (hA.al i hi) _ (getD_in hl) h3
  have := b.1
  have := hv.tl
  exact ⟨a, by omega⟩⟩

def Sty (s : Wrs) (mj : Bool) (sb : Int → Bool) : Prop := ∀ i : Nat, Alv s.T i → (sb i = true ↔ (s.T.getD i t0).2.2.1 = true ∧ mj = false)
theorem isk_of (hv : Wcv s) {mj : Bool} {sb : Int → Bool} (hs : Sty s mj sb) : Isk (cpOf w gp most grow l s) sb (frs s.T s.rs mj) where
  st := fun i hi h => (frs_in _ _ _ _).2 ⟨hi.1, Or.inl ⟨((hs i hi).1 h).1, hi.2, ((hs i hi).1 h).2⟩⟩
  rt := fun v hv' h3 => (frs_in _ _ _ _).2 ⟨(hv.rv v hv' h3).2.1, Or.inr ⟨v, hv', h3, rfl⟩⟩
  up := fun i hi => by
    obtain ⟨h1, h2⟩ := (frs_in _ _ _ _).1 hi
    rcases h2 with ⟨a, b, c⟩ | c
    · exact Or.inl ⟨⟨h1, b⟩, (hs i ⟨h1, b⟩).2 ⟨a, c⟩⟩
    · exact Or.inr c
  rv := hv.rv

def cnf (g : List Bool → List Bool) (s : Wrs) (grow : Int) (mj : Bool) : Bool := decide (grow < cwn s.T (s.cR g mj).1 s.T.length)
def Wrs.cu0 (g : List Bool → List Bool) (s : Wrs) (mj : Bool) : Wrs :=
  { T := cuL (s.cR g mj).1 s.T s.T.length, rs := s.rs, rg := s.rg.filter (fun e => isd (s.c0 g mj) e.2 && isd (s.cR g mj).1 e.1), wt := (s.wt ++ (s.cR g mj).2.1).filter (fun e => isd (s.cR g mj).1 e.1) }

theorem set_grove {w : World} {gp ab p mk : Nat} {most grow : Int} {m b r : Value} {n a : Nat} (h : w.heap[gp]? = some (.cells #[.int .i64 most, .int .i64 grow, m, .int .i64 n, .int .i64 a, b, r] 56 (0, 0))) :
    (((w.setCell ⟨gp, 2, none⟩ (.map (some ab))).setCell ⟨gp, 5, none⟩ (.pointer (some ⟨p, 0, none⟩))).setCell ⟨gp, 4, none⟩ (.int .i64 mk)).heap[gp]? = some (.cells #[.int .i64 most, .int .i64 grow, .map (some ab), .int .i64 n, .int .i64 mk, .pointer (some ⟨p, 0, none⟩), r] 56 (0, 0)) := by
  simp only [World.setCell, Array.getElem?_modify, if_true, h, Option.map_some]
  rfl

theorem gq_1 {w : World} {gp b o o' : Nat} {v x : Value} (hn : gp ≠ b) (h : w.cell? ⟨b, o', none⟩ = some x) : (w.setCell ⟨gp, o, none⟩ v).drew.cell? ⟨b, o', none⟩ = some x := by
  rw [World.cell?_drew, World.cell?_setCell_far _ _ _ _ hn]
  exact h
theorem gq_2 {w : World} {gp : Nat} {v x : Value} (h : w.cell? ⟨gp, 3, none⟩ = some x) : (w.setCell ⟨gp, 2, none⟩ v).drew.cell? ⟨gp, 3, none⟩ = some x := by
  rw [World.cell?_drew, World.cell?_setCell_other _ _ _ _ (by simp)]
  exact h
theorem gq_3 {w : World} {gp : Nat} {v x : Value} (h : w.cell? ⟨gp, 3, none⟩ = some x) : (w.setCell ⟨gp, 5, none⟩ v).drew.cell? ⟨gp, 3, none⟩ = some x := by
  rw [World.cell?_drew, World.cell?_setCell_other _ _ _ _ (by simp)]
  exact h
theorem gq_4 {w : World} {gp : Nat} {v x : Value} (h : w.cell? ⟨gp, 3, none⟩ = some x) : (w.setCell ⟨gp, 4, none⟩ v).drew.cell? ⟨gp, 3, none⟩ = some x := by
  rw [World.cell?_drew, World.cell?_setCell_other _ _ _ _ (by simp)]
  exact h

set_option maxRecDepth 100000 in
set_option maxHeartbeats 8000000 in
theorem cutBackG_any (h : Gvy gp most grow l s w) (hF : ∀ b, F b ↔ l.own b ≠ 0) (hv : Wcv s) (hG : Gok s.T s.wt g) (mj : Bool) {f : Nat} {b d : Array Value} {sb : Int → Bool} (hs : Stay (cpOf w gp most grow l s) f b d sb) (hy : Sty s mj sb) :
    Calls Tryz.prog 44 #[.pointer (some ⟨gp, 0, none⟩), .func (.func f) b d] w fun e w' => ∃ F', e = .returned (.int .i64 (if cnf g s grow mj = true then 3 else 0)) ∧ (grO gp most grow l.rb).J F' (if cnf g s grow mj = true then s else s.cu0 g mj) w' ∧ Tn F w F' w' := by
  have hmm := @run_makeMap Tryz.prog
  have hg := cg_of h hv
  have st0 := Cm.start w gp most grow l s
  have P := keepAllX_any hg st0 ⟨Mi.start s.T s.wt (frs s.T s.rs mj), fun _ => Nat.le_refl _, by show 0 + (0 + cnt (List.replicate s.T.length false)) ≤ s.T.length; rw [cnt_rep]; omega⟩ hs (isk_of hv hy)
  have hfs := hv.first mj
  -- behind keepAll
  have H1 : Hid (∀ own1 vt1 n11 n21 hm1 st1 (w1 : World), Cm (cpOf w gp most grow l s) own1 vt1 n11 n21 hm1 st1 w1 → Mo s.T s.wt (frs s.T s.rs mj) st1 → st1.td = [] → (∀ k, Ls_ (frs s.T s.rs mj) k → Ls_ st1.A k) →
      Calls Tryz.prog 69 #[.pointer (some ⟨w.heap.size + 1 + 1, 0, none⟩)] w1 fun e w' => ∃ own' vt' n1' n2' hm' st' p a1 k1 a2 k2, e = .returned (.pointer (some ⟨p, 0, none⟩)) ∧ Hid (Cm (cpOf w gp most grow l s) own' vt' n1' n2' hm' st' w' ∧ st'.A = (s.cR g mj).1 ∧ Sok_ s.T st'.A ∧ Sds w' p a1 k1 a2 k2 (s.cu0 g mj).rg (s.cu0 g mj).wt ∧ w.heap.size ≤ p ∧ own' p = 0 ∧
        (∀ k, some k = (Value.slice a1 (s.cu0 g mj).rg.length k1).ownBlock → w.heap.size ≤ k ∧ own' k = 0 ∧ some k ≠ (Value.slice a2 (s.cu0 g mj).wt.length k2).ownBlock) ∧ (∀ k, some k = (Value.slice a2 (s.cu0 g mj).wt.length k2).ownBlock → w.heap.size ≤ k ∧ own' k = 0) ∧ (w'.os = w1.os ∧ w'.tape = w1.tape ∧ w'.output = w1.output))) := fun own1 vt1 n11 n21 hm1 st1 w1 c1 mo1 td1 up1 => by
    have e1 : st1.A = s.c0 g mj := (mo1.mi.done td1 hfs.len up1).uniq (hG _ hfs.len hfs.al)
    refine (settledX_any hg hG hv c1 ⟨mo1.mi.base (fun _ h => h), mo1.hl, mo1.mm⟩ td1).mono ?_
    rintro e w' ⟨own', vt', n1', n2', hm', st', p, a1, k1, a2, k2, rfl, c2, eA, eT, moA, tk, hS, ⟨hp, op⟩, hr, hq⟩
    have eT : gT g st1.A s.rg = s.cR g mj := by rw [e1]; rfl
    have z := c1.sz
    dsimp only at z eA hS hr hq
    rw [eT] at eA hS hr hq
    rw [e1] at hS hr
    exact ⟨own', vt', n1', n2', hm', st', p, a1, k1, a2, k2, rfl, c2, eA, ⟨moA.mi.len, moA.mi.al⟩, hS, by omega, op, fun k e => ⟨by have := (hr k e).1; omega, (hr k e).2⟩, fun k e => ⟨by have := (hq k e).1; omega, (hq k e).2⟩, tk.fr.os, tk.fr.tape, tk.fr.output⟩
  have lg := h.cells.2.2.2.2.2.2.2.2
  have HF : Hid (∀ b, F b ↔ l.own b ≠ 0) := hF
  have HV : Hid (Gvy gp most grow l s w ∧ Wcv s ∧ Cg (cpOf w gp most grow l s)) := ⟨h, hv, hg⟩
  generalize ecd : (if cnf g s grow mj = true then (3 : Int) else 0) = cd
  generalize esd : (if cnf g s grow mj = true then s else s.cu0 g mj) = sd
  have HD : Hid ((if cnf g s grow mj = true then (3 : Int) else 0) = cd ∧ (if cnf g s grow mj = true then s else s.cu0 g mj) = sd) := ⟨ecd, esd⟩
  clear h hF hv hG hs hy hg st0 hfs ecd esd
  go_enter Tryz.func44, Tryz.ntmps44
  go_wp2_with fail
  refine P.mono ?_
  clear P
  rintro e w1 ⟨own1, vt1, n11, n21, hm1, st1, rfl, c1, t1, mo1, td1, up1⟩
  have P := H1.out own1 vt1 n11 n21 hm1 st1 w1 c1 mo1 td1 up1
  have HO : Hid (w1.os = w.os ∧ w1.tape = w.tape ∧ w1.output = w.output) := ⟨t1.fr.os, t1.fr.tape, t1.fr.output⟩
  clear c1 t1 mo1 td1 up1 H1
  go_wp2_with fail
  refine P.mono ?_
  clear P
  rintro e w2 ⟨own2, vt2, n12, n22, hm2, st2, p, a1, k1, a2, k2, rfl, HS⟩
  have hW : cwn s.T st2.A s.T.length = cwn s.T (s.cR g mj).1 s.T.length := by rw [HS.out.2.1]
  have P := wordsX_any HV.out.2.2 (HS.out.1.below (Below.refl _ w2).drew) HS.out.2.2.1.len
  have gv2 := HS.out.1.gv HV.out.2.2.g
  obtain ⟨_, d1, _, _, _, _, _, _, lg2⟩ := gv2.cells
  dsimp only at d1 P lg2
  rw [hW] at P
  have hcb := cwn_bd s.T (s.cR g mj).1 HV.out.2.1.iv.tl s.T.length
  have htl := HV.out.2.1.tl
  have HC : Hid (cnf g s grow mj = decide (grow < cwn s.T (s.cR g mj).1 s.T.length)) := rfl
  generalize cwn s.T (s.cR g mj).1 s.T.length = cw at *
  clear gv2 hW
  by_cases hlt : grow < cw
  · have e3 : cnf g s grow mj = true := by rw [HC.out, decide_eq_true hlt]
    have ED : Hid (cd = 3 ∧ sd = s) := by
      rw [e3] at HD
      exact ⟨HD.out.1.symm, HD.out.2.symm⟩
    have HE : Hid (∀ w3, Below w2.heap.size w2 w3 → (grO gp most grow l.rb).J F s w3 ∧ Tn F w F w3) := fun w3 hb => by
      have c3 := HS.out.1.below hb
      have o := HS.out.2.2.2.2.2.2.2.2
      refine ⟨⟨l, c3.gv HV.out.2.2.g, rfl, HF.out⟩, ⟨⟨hb.os.trans (o.1.trans HO.out.1), hb.tape.trans (o.2.1.trans HO.out.2.1), hb.output.trans (o.2.2.trans HO.out.2.2), c3.sz, fun k hk _ => c3.ol k hk⟩, fun _ h => Or.inl h⟩⟩
    clear HC e3 HS HO HV HF HD
    go_wp2_with fail
    go_region_held3 (fun w' => w'.cell? ⟨gp, 1, none⟩ = some (.int .i64 grow)) (go_keep)
      (first | (go_at_call 70; refine P.mono ?_; clear P; rintro e w3 ⟨rfl, hb3⟩; have d1' := (hb3.cell (p := ⟨gp, 1, none⟩) lg2).trans d1; have HE2 : Hid (_) := HE.out w3 (((Below.refl _ w2).drew).trans (hb3.mono (Nat.le_refl _))); clear hb3 HE))
    all_goals
      clear d1 d1'
      go_wp2_with fail
      go_ret
      exact ⟨F, by rw [ED.out.1]; rfl, by rw [ED.out.2]; exact HE2.out.1, HE2.out.2⟩
  · have e3 : cnf g s grow mj = false := by rw [HC.out, decide_eq_false hlt]
    have ED : Hid (cd = 0 ∧ sd = s.cu0 g mj) := by
      rw [e3] at HD
      exact ⟨HD.out.1.symm, HD.out.2.symm⟩
    have HE : Hid (∀ w3, Below w2.heap.size w2 w3 → Calls Tryz.prog 71 #[.pointer (some ⟨w.heap.size + 1 + 1, 0, none⟩)] w3 fun e w4 => e = .returned (.tuple #[]) ∧ w4.cell? ⟨w.heap.size + 1 + 1, 1, none⟩ = some (.map (some w.heap.size)) ∧
        w4.heap[gp]? = some (.cells #[.int .i64 most, .int .i64 grow, .map (some l.mb), .int .i64 s.T.length, .int .i64 l.ag, .pointer (some ⟨l.bp, 0, none⟩), .slice (some ⟨l.rb, 0, none⟩) 12 12] 56 (0, 0)) ∧
        Hid (∀ w5, Fr (fun k => k = gp) w4 w5 → w5.heap[gp]? = some (.cells #[.int .i64 most, .int .i64 grow, .map (some w.heap.size), .int .i64 s.T.length, .int .i64 s.T.length, .pointer (some ⟨p, 0, none⟩), .slice (some ⟨l.rb, 0, none⟩) 12 12] 56 (0, 0)) → ∃ F', (grO gp most grow l.rb).J F' (s.cu0 g mj) w5 ∧ Tn F w F' w5)) := fun w3 hb => by
      have c3 := HS.out.1.below hb
      obtain ⟨hs1, eA, hok, hS, hp, op, hr, hq, o⟩ := HS.out
      have hv := HV.out.2.1
      have h := HV.out.1
      have gv3 := c3.gv HV.out.2.2.g
      have lw : ∀ b, l.own b ≠ 0 → b < w.heap.size := h.lt
      have z0 : ∀ b, w.heap.size ≤ b → l.own b = 0 := fun b hb' => by
        cases e : l.own b
        · rfl
        · exact absurd (lw b (by rw [e]; omega)) (by omega)
      have hB := bkt_of hv hok
      refine (breakX_any (fm := l.fm) (lab := l.own) (cp := w.heap.size + 1 + 1) (ab := w.heap.size) (n1 := n12) ⟨c3.cells.2.1, c3.am, fun i hi => gv3.g2.fl i (hok.al i hi), fun i hi k e => h.g2.fo i (hok.al i hi) k e, z0 _ (by omega), z0 _ (Nat.le_refl _)⟩ hB (fun b hb' => Nat.lt_of_lt_of_le (lw b hb') c3.sz) (fun i hi => by have := (hok.al i hi).1; omega)).mono ?_
      rintro e w4 ⟨rfl, bk, fr4⟩
      have hgp : w4.heap[gp]? = w3.heap[gp]? := fr4.block gp (lt_of_some gv3.blk) (fun d => by have := h.bo; omega)
      refine ⟨rfl, bk.c1, hgp.trans gv3.blk, fun w5 fr5 hb5 => ?_⟩
      have ngp : ∀ b, w.heap.size ≤ b → b ≠ gp := fun b hb' e => by omega
      have k5 : ∀ b, b < w3.heap.size → b ≠ gp → ¬ 10 ≤ l.own b → w5.heap[b]? = w3.heap[b]? := fun b hb' hn h10 => (fr5.block b (Nat.lt_of_lt_of_le hb' fr4.size) hn).trans (fr4.block b hb' h10)
      have k53 : ∀ b, w.heap.size ≤ b → b < w3.heap.size → w5.heap[b]? = w3.heap[b]? := fun b h1 h2 => k5 b h2 (ngp b h1) (by rw [z0 b h1]; omega)
      have hS3 := hS.below hb
      have hS5 : Sds w5 p a1 k1 a2 k2 (s.cu0 g mj).rg (s.cu0 g mj).wt := hS3.keep (k53 p hp (lt_of_some hS3.blk)) (fun k e => k53 k (hr k e).1 (row_lt hS3.r0 k e).2) (fun k e => k53 k (hq k e).1 (row_lt hS3.q0 k e).2)
      obtain ⟨l', g1, g2⟩ := h.cut hok hB (Nat.le_trans c3.sz (Nat.le_trans fr4.size fr5.size)) (fun b h4 => (k5 b (Nat.lt_of_lt_of_le (lw b (by omega)) c3.sz) (fun e => by have := h.bo; rw [e] at h4; omega) (by omega)).trans (c3.ol b (lw b (by omega)))) hb5
        (bk.hM.same (fr5.block _ bk.hM.lt (ngp _ (Nat.le_refl _)))) (by have := c3.an; dsimp only at this; omega) (fun i hi => row_keep (bk.row i hi) (fun k e => fr5.block k (row_lt (bk.row i hi) k e).2 (fun d => by have h1 := bk.lb i hi k e; have h2 := h.bo; rw [d, h2] at h1; omega))) hS5 ⟨Nat.le_refl _, hp⟩ (fun k e => (hr k e).1) (fun k e => (hq k e).1) (fun k e => (hr k e).2.2)
      have es : ({ T := cuL st2.A s.T s.T.length, rs := s.rs, rg := (s.cu0 g mj).rg, wt := (s.cu0 g mj).wt } : Wrs) = s.cu0 g mj := by rw [eA]; rfl
      rw [es] at g1
      refine ⟨fun b => l'.own b ≠ 0, ⟨l', g1, g1.rbq (by simp [World.cell?, hb5]), fun _ => Iff.rfl⟩, ⟨⟨fr5.os.trans (fr4.os.trans (hb.os.trans (o.1.trans HO.out.1))), fr5.tape.trans (fr4.tape.trans (hb.tape.trans (o.2.1.trans HO.out.2.1))), fr5.output.trans (fr4.output.trans (hb.output.trans (o.2.2.trans HO.out.2.2))), Nat.le_trans c3.sz (Nat.le_trans fr4.size fr5.size), fun k hk hn => ?_⟩, fun b hb' => (g2 b hb').imp (HF.out b).2 id⟩⟩
      have hk0 : l.own k = 0 := by
        cases e : l.own k
        · rfl
        · exact absurd ((HF.out k).2 (by rw [e]; omega)) hn
      exact (k5 k (Nat.lt_of_lt_of_le hk c3.sz) (fun e => by have := h.bo; rw [e] at hk0; omega) (by omega)).trans (c3.ol k hk)
    clear HC e3 HS HO HV HF HD
    go_wp2_with fail
    go_region_held3 (fun w' => w'.cell? ⟨gp, 1, none⟩ = some (.int .i64 grow)) (go_keep)
      (first | (go_at_call 70; refine P.mono ?_; clear P; rintro e w3 ⟨rfl, hb3⟩; have d1' := (hb3.cell (p := ⟨gp, 1, none⟩) lg2).trans d1; have P2 := HE.out w3 (((Below.refl _ w2).drew).trans (hb3.mono (Nat.le_refl _))); clear hb3 HE))
    all_goals
      clear d1 d1'
      go_wp2_with fail
      refine P2.mono ?_
      clear P2
      rintro e w4 ⟨rfl, x1, hgb, HX⟩
      have HGB : Hid (_ = _) := hgb
      have y2 : w4.cell? ⟨gp, 2, none⟩ = some (.map (some l.mb)) := by simp [World.cell?, hgb]
      have y3 : w4.cell? ⟨gp, 3, none⟩ = some (.int .i64 s.T.length) := by simp [World.cell?, hgb]
      have y4 : w4.cell? ⟨gp, 4, none⟩ = some (.int .i64 l.ag) := by simp [World.cell?, hgb]
      have y5 : w4.cell? ⟨gp, 5, none⟩ = some (.pointer (some ⟨l.bp, 0, none⟩)) := by simp [World.cell?, hgb]
      have yf : ∀ o, w4.frozen? ⟨gp, o, none⟩ = false := fun o => by simp [World.frozen?, hgb]
      have nc : gp ≠ w.heap.size + 1 + 1 := by omega
      clear hgb
      go_wp2_with fail
      go_region_held3 (fun w' => w'.cell? ⟨w.heap.size + 1 + 1, 1, none⟩ = some (.map (some w.heap.size)) ∧ w'.cell? ⟨gp, 3, none⟩ = some (.int .i64 s.T.length)) (first | exact ⟨x1, y3⟩ | exact ⟨gq_1 nc x1, gq_2 y3⟩ | exact ⟨gq_1 nc (gq_1 nc x1), gq_3 (gq_2 y3)⟩ | exact ⟨gq_1 nc (gq_1 nc (gq_1 nc x1)), gq_4 (gq_3 (gq_2 y3))⟩ | (go_keep; done)) (fail)
      all_goals
        clear ‹_ ∧ _›
        obtain ⟨F', j5, t5⟩ := HX.out _ (((((Fr.refl (fun k => k = gp) w4).set gp 2 _ rfl).set gp 5 _ rfl).set gp 4 _ rfl).drew) (set_grove HGB.out)
        have HZ : Hid (_) := And.intro j5 t5
        clear j5 t5 HX HGB x1 y2 y3 y4 y5 yf
        go_wp2_with fail
        go_ret
        exact ⟨F', by rw [ED.out.1]; rfl, by rw [ED.out.2]; exact HZ.out.1, HZ.out.2⟩
end

end Go.Proofs.YtogknhogphkddaaGreat

/- A grove's cuts in memory: smallCut, greatCut, makeRoom: contracts. -/
namespace Go.Proofs.YtogknhogphkddaaGreat
open Go.RowKit W Kp Stl

set_option maxRecDepth 100000 in
set_option maxHeartbeats 2000000 in
theorem never_any (x : Int) (w : World) : Calls Tryz.prog 45 #[.int .i64 x] w fun e w' => e = .returned (.bool false) ∧ Below w.heap.size w w' := by
  go_enter Tryz.func45, Tryz.ntmps45
  go_wp2_with fail
  go_ret
  exact ⟨rfl, Below.refl _ _⟩

section
variable {gp rb : Nat} {most grow : Int} {l : Gl} {F : Nat → Prop} {s : Wrs} {w : World} {g : List Bool → List Bool}

theorem stay_no : Stay (cpOf w gp most grow l s) 45 #[] #[] (fun _ => false) :=
  ⟨ent_of Tryz.func45 (by kernel_rfl) rfl, fun x w' _ => never_any x w'⟩
theorem stay_old (h : Gvy gp most grow l s w) : Stay (cpOf w gp most grow l s) 30 #[.pointer (some ⟨gp, 0, none⟩)] #[] (fun x => decide (x < l.ag)) :=
  ⟨ent_of Tryz.func30 (by kernel_rfl) rfl, fun x w' hk => by
    have c := h.cells
    have e := hk gp c.2.2.2.2.2.2.2.2
    refine (isOldG_any (ag := l.ag) ?_ x).mono ?_
    · have := c.2.2.2.2.1
      simp only [World.cell?] at this ⊢
      rw [e]
      exact this
    · rintro e w'' ⟨rfl, rfl⟩
      exact ⟨rfl, Below.refl _ _⟩⟩
theorem sty_no : Sty s true (fun _ => false) := fun _ _ => ⟨fun h => (by cases h), fun h => (by cases h.2)⟩
theorem sty_old (h : Gvy gp most grow l s w) : Sty s false (fun x => decide (x < l.ag)) := fun i hi => by
  rw [h.g2.ag i hi]
  simp
theorem cu_yes {mj : Bool} (h : s.cF g grow mj = true) : s.ccd g grow mj = 3 ∧ s.cut g grow mj = s := by
  unfold Wrs.ccd Wrs.cut
  rw [if_pos h, if_pos h]
  exact ⟨rfl, rfl⟩
theorem cu_cnf {mj : Bool} (h : mj = true ∨ ¬ (grow - (usd s.T).2 < (usd s.T).1)) : s.ccd g grow mj = (if cnf g s grow mj = true then 3 else 0) ∧ s.cut g grow mj = (if cnf g s grow mj = true then s else s.cu0 g mj) := by
  have e : s.cF g grow mj = cnf g s grow mj := by
    unfold Wrs.cF cnf
    rcases h with h | h
    · rw [h]
      simp
    · rw [decide_eq_false h]
      simp
  unfold Wrs.ccd Wrs.cut Wrs.cu0
  rw [e]
  exact ⟨rfl, rfl⟩

set_option maxRecDepth 100000 in
set_option maxHeartbeats 4000000 in
theorem greatG_any (h : (grO gp most grow rb).J F s w) (hv : Wcv s) (hG : Gok s.T s.wt g) :
    Calls Tryz.prog 22 #[.pointer (some ⟨gp, 0, none⟩)] w fun e w' => ∃ F', e = .returned (.int .i64 (s.ccd g grow true)) ∧ (grO gp most grow rb).J F' (s.cut g grow true) w' ∧ Tn F w F' w' := by
  obtain ⟨l, hg, hrb, hF⟩ := h
  have P := cutBackG_any hg hF hv hG true stay_no sty_no
  rw [hrb] at P
  obtain ⟨e1, e2⟩ := cu_cnf (s := s) (grow := grow) (g := g) (mj := true) (Or.inl rfl)
  rw [← e1, ← e2] at P
  generalize s.ccd g grow true = cd at *
  generalize s.cut g grow true = sd at *
  clear hg hrb hF hv hG e1 e2
  go_enter Tryz.func22, Tryz.ntmps22
  go_wp2_with fail
  refine P.mono ?_
  clear P
  rintro e w1 ⟨F', rfl, hj, ht⟩
  have HJ : Hid ((grO gp most grow rb).J F' sd w1 ∧ Tn F w F' w1) := ⟨hj, ht⟩
  clear hj ht
  go_wp2_with fail
  go_ret
  exact ⟨F', rfl, HJ.out⟩

set_option maxRecDepth 100000 in
set_option maxHeartbeats 4000000 in
theorem smallG_any (h : (grO gp most grow rb).J F s w) (hv : Wcv s) (hG : Gok s.T s.wt g) (g0 : -1000000 ≤ grow) (g1 : grow ≤ 1000000) :
    Calls Tryz.prog 21 #[.pointer (some ⟨gp, 0, none⟩)] w fun e w' => ∃ F', e = .returned (.int .i64 (s.ccd g grow false)) ∧ (grO gp most grow rb).J F' (s.cut g grow false) w' ∧ Tn F w F' w' := by
  obtain ⟨l, hg, hrb, hF⟩ := h
  have P := usedG_any hg hv.iv.tl hv.tl
  have bd := usd_bd s.T hv.t12
  have htl := hv.tl
  obtain ⟨_, _, _, _, _, _, _, _, lg⟩ := hg.cells
  have HC : Hid (∀ w1, Below w.heap.size w w1 → w1.cell? ⟨gp, 1, none⟩ = some (.int .i64 grow)) := fun w1 hb => (hg.below hb).cells.2.1
  have HP : Hid (¬ (grow - (usd s.T).2 < (usd s.T).1) → ∀ w1, Below w.heap.size w w1 → Calls Tryz.prog 44 #[.pointer (some ⟨gp, 0, none⟩), .func (.func 30) #[.pointer (some ⟨gp, 0, none⟩)] #[]] w1 fun e w' => ∃ F', e = .returned (.int .i64 (s.ccd g grow false)) ∧ (grO gp most grow rb).J F' (s.cut g grow false) w' ∧ Tn F w F' w') := fun hn w1 hb => by
    have hg1 := hg.below hb
    have P1 := cutBackG_any hg1 hF hv hG false (stay_old hg1) (sty_old hg1)
    rw [hrb] at P1
    refine P1.mono ?_
    obtain ⟨e1, e2⟩ := cu_cnf (s := s) (grow := grow) (g := g) (mj := false) (Or.inr hn)
    rw [← e1, ← e2]
    rintro e w' ⟨F', rfl, hj, ht⟩
    exact ⟨F', rfl, hj, (Tn.of hb).trans ht⟩
  have HN : Hid (grow - (usd s.T).2 < (usd s.T).1 → s.ccd g grow false = 3 ∧ s.cut g grow false = s) := fun hn => cu_yes (by unfold Wrs.cF; rw [decide_eq_true hn]; rfl)
  have HJ : Hid (∀ w1, Below w.heap.size w w1 → (grO gp most grow rb).J F s w1) := fun w1 hb => ⟨l, hg.below hb, hrb, hF⟩
  generalize s.ccd g grow false = cd at *
  generalize s.cut g grow false = sd at *
  generalize (usd s.T).1 = yn at *
  generalize (usd s.T).2 = od at *
  clear hg hrb hF hv hG
  by_cases hn : grow - od < yn
  · have ED : Hid (cd = 3 ∧ sd = s) := HN.out hn
    clear HP HN
    go_enter Tryz.func21, Tryz.ntmps21
    go_wp2_with fail
    refine P.mono ?_
    clear P
    rintro e w1 ⟨rfl, hb⟩
    have c1 := HC.out w1 hb
    have HK : Hid ((grO gp most grow rb).J F s w1 ∧ Tn F w F w1) := ⟨HJ.out w1 hb, Tn.of hb⟩
    clear HC HJ hb
    go_wp2_with fail
    go_ret
    exact ⟨F, by rw [ED.out.1]; rfl, by rw [ED.out.2]; exact HK.out.1, HK.out.2⟩
  · have HQ : Hid (_) := HP.out hn
    clear HN HJ HP
    go_enter Tryz.func21, Tryz.ntmps21
    go_wp2_with fail
    refine P.mono ?_
    clear P
    rintro e w1 ⟨rfl, hb⟩
    have c1 := HC.out w1 hb
    have P := HQ.out w1 hb
    clear HC hb HQ
    go_wp2_with fail
    refine P.mono ?_
    clear P
    rintro e w2 ⟨F', rfl, hj, ht⟩
    have HJ : Hid ((grO gp most grow rb).J F' sd w2 ∧ Tn F w F' w2) := ⟨hj, ht⟩
    clear hj ht
    go_wp2_with fail
    go_ret
    exact ⟨F', rfl, HJ.out⟩

set_option maxRecDepth 100000 in
set_option maxHeartbeats 4000000 in
theorem roomG_any {g : Gfn} {m : Int} (h : (grO gp most grow rb).J F s w) (hv : Wcv s) (hG : Gok s.T s.wt (g s.T s.wt)) (g0 : -1000000 ≤ grow) (g1 : grow ≤ 1000000) (m0 : -1000000 ≤ most) (m1 : most ≤ 1000000) :
    Calls Tryz.prog 73 #[.pointer (some ⟨gp, 0, none⟩), .int .i64 m] w fun e w' => ∃ F', e = .returned (.int .i64 (s.room g most grow m).1) ∧ (grO gp most grow rb).J F' (s.room g most grow m).2 w' ∧ Tn F w F' w' := by
  obtain ⟨l, hg, hrb, hF⟩ := h
  have P := usedG_any hg hv.iv.tl hv.tl
  have bd := usd_bd s.T hv.t12
  have htl := hv.tl
  obtain ⟨_, _, _, _, _, _, _, _, lg⟩ := hg.cells
  have HC : Hid (∀ w1, Below w.heap.size w w1 → w1.cell? ⟨gp, 0, none⟩ = some (.int .i64 most) ∧ w1.cell? ⟨gp, 1, none⟩ = some (.int .i64 grow)) := fun w1 hb => ⟨(hg.below hb).cells.1, (hg.below hb).cells.2.1⟩
  have HJ : Hid (∀ w1, Below w.heap.size w w1 → (grO gp most grow rb).J F s w1) := fun w1 hb => ⟨l, hg.below hb, hrb, hF⟩
  by_cases c1 : m ≤ most - (usd s.T).1
  · have e : s.room g most grow m = (0, s) := if_pos c1
    rw [e]
    dsimp only
    generalize (usd s.T).1 = yn at *
    generalize (usd s.T).2 = od at *
    clear hg hrb hF hv hG e
    go_enter Tryz.func73, Tryz.ntmps73
    go_wp2_with fail
    refine P.mono ?_
    clear P
    rintro e w1 ⟨rfl, hb⟩
    obtain ⟨d0, d1⟩ := HC.out w1 hb
    have HK : Hid ((grO gp most grow rb).J F s w1 ∧ Tn F w F w1) := ⟨HJ.out w1 hb, Tn.of hb⟩
    clear HC HJ hb
    go_wp2_with fail
    go_ret
    exact ⟨F, rfl, HK.out⟩
  · by_cases c2 : grow - (usd s.T).2 < (usd s.T).1
    · have e : s.room g most grow m = (s.ccd (g s.T s.wt) grow true, s.cut (g s.T s.wt) grow true) := by unfold Wrs.room; rw [if_neg c1, decide_eq_true c2]
      rw [e]
      have HP : Hid (∀ w1, Below w.heap.size w w1 → Calls Tryz.prog 22 #[.pointer (some ⟨gp, 0, none⟩)] w1 fun e w' => ∃ F', e = .returned (.int .i64 (s.ccd (g s.T s.wt) grow true)) ∧ (grO gp most grow rb).J F' (s.cut (g s.T s.wt) grow true) w' ∧ Tn F w F' w') := fun w1 hb => by
        refine (greatG_any (HJ.out w1 hb) hv hG).mono ?_
        rintro e w' ⟨F', rfl, hj, ht⟩
        exact ⟨F', rfl, hj, (Tn.of hb).trans ht⟩
      generalize s.ccd (g s.T s.wt) grow true = cd at *
      generalize s.cut (g s.T s.wt) grow true = sd at *
      generalize (usd s.T).1 = yn at *
      generalize (usd s.T).2 = od at *
      clear hg hrb hF hv hG e HJ
      go_enter Tryz.func73, Tryz.ntmps73
      go_wp2_with fail
      refine P.mono ?_
      clear P
      rintro e w1 ⟨rfl, hb⟩
      obtain ⟨d0, d1⟩ := HC.out w1 hb
      have P := HP.out w1 hb
      clear HC hb HP
      go_wp2_with fail
      refine P.mono ?_
      clear P
      rintro e w2 ⟨F', rfl, hj, ht⟩
      have HJ : Hid ((grO gp most grow rb).J F' sd w2 ∧ Tn F w F' w2) := ⟨hj, ht⟩
      clear hj ht
      go_wp2_with fail
      go_ret
      exact ⟨F', rfl, HJ.out⟩
    · have e : s.room g most grow m = (s.ccd (g s.T s.wt) grow false, s.cut (g s.T s.wt) grow false) := by unfold Wrs.room; rw [if_neg c1, decide_eq_false c2]
      rw [e]
      have HP : Hid (∀ w1, Below w.heap.size w w1 → Calls Tryz.prog 21 #[.pointer (some ⟨gp, 0, none⟩)] w1 fun e w' => ∃ F', e = .returned (.int .i64 (s.ccd (g s.T s.wt) grow false)) ∧ (grO gp most grow rb).J F' (s.cut (g s.T s.wt) grow false) w' ∧ Tn F w F' w') := fun w1 hb => by
        refine (smallG_any (HJ.out w1 hb) hv hG g0 g1).mono ?_
        rintro e w' ⟨F', rfl, hj, ht⟩
        exact ⟨F', rfl, hj, (Tn.of hb).trans ht⟩
      generalize s.ccd (g s.T s.wt) grow false = cd at *
      generalize s.cut (g s.T s.wt) grow false = sd at *
      generalize (usd s.T).1 = yn at *
      generalize (usd s.T).2 = od at *
      clear hg hrb hF hv hG e HJ
      go_enter Tryz.func73, Tryz.ntmps73
      go_wp2_with fail
      refine P.mono ?_
      clear P
      rintro e w1 ⟨rfl, hb⟩
      obtain ⟨d0, d1⟩ := HC.out w1 hb
      have P := HP.out w1 hb
      clear HC hb HP
      go_wp2_with fail
      refine P.mono ?_
      clear P
      rintro e w2 ⟨F', rfl, hj, ht⟩
      have HJ : Hid ((grO gp most grow rb).J F' sd w2 ∧ Tn F w F' w2) := ⟨hj, ht⟩
      clear hj ht
      go_wp2_with fail
      go_ret
      exact ⟨F', rfl, HJ.out⟩
end

end Go.Proofs.YtogknhogphkddaaGreat

/- A grove in memory: a thing comes; slices.Clone of values: a contract. -/
namespace Go.Proofs.YtogknhogphkddaaGreat
open Go.RowKit W Kp Stl

theorem owns_emptyV (w : World) : (w.alloc (.cells #[] 54)).ownsRow w.heap.size 54 2 (.slice (some ⟨w.heap.size, 0, none⟩) 0 0) 0 [] :=
  ⟨rfl, Or.inr ⟨w.heap.size, 0, #[], rfl, Nat.le_refl _, heap_alloc_new _ _, Nat.le_refl _, Nat.zero_le _, rfl, rfl⟩⟩
theorem infoVn : (Tryz.prog.info? 54).map (fun i => (i.zero, i.size, i.bytes)) = some (some (.agg #[.int .i64 0, .int .i64 0]), 2, 16) := by kernel_rfl

set_option maxRecDepth 100000 in
set_option maxHeartbeats 400000 in
theorem cloneV_any (w : World) (ad : Option Addr) (l : List (Int × Int)) (cap : Nat) (h : Li w ad l cap) (hm : l.length ≤ 100000) :
    Calls Tryz.prog 72 #[.slice ad l.length cap] w fun e w' => ∃ a1 c1, e = .returned (.slice a1 l.length c1) ∧ w'.ownsRow w.heap.size 54 2 (.slice a1 l.length c1) l.length (ev l) ∧ Below w.heap.size w w' := by
  obtain ⟨i0, hi, hz0, hz1, hz2⟩ := info_parts infoVn
  have qn : ∀ (w : World) (a : Option Addr) (n c : Nat), (binOp .eql 38 (.slice a n c) (.slice none 0 0)).run Tryz.prog w = .ok (.bool a.isNone) w := fun w a n c => Lib.run_eql_slice_nil w _ _ a n c 0 0 Tryz.underlying38
  have HL : Hid (Lp w ad l) := h.lp
  cases ad with
  | none =>
    have hl : l = [] := List.eq_nil_of_length_eq_zero (h.nil rfl).1
    subst hl
    clear h HL
    go_enter Tryz.func72, Tryz.ntmps72
    go_wp2_with fail
    go_ret
    exact ⟨none, 0, rfl, World.ownsRow_nil _ _ _ _, Below.refl _ _⟩
  | some a =>
    clear h
    go_enter Tryz.func72, Tryz.ntmps72
    go_wp2_with (at_builtin; refine wpList_append_own _ rfl _ _ 38 rfl w.heap.size 54 i0 (.agg #[.int .i64 0, .int .i64 0]) 2 16 Tryz.underlying38 hi hz0 hz1 hz2 rfl (by decide) _ 0 [] rfl (owns_emptyV w) a l.length cap (ev l) rfl (ev_length l) ((HL.out.below ((Below.refl _ _).alloc (Nat.le_refl _) _)).cells a rfl) (ev_one l) ?_ ?_ ?_ ?_; (unfold maxLen; omega); omega; (simp); intro v w1 hown hgrow _)
    rw [List.nil_append, Nat.zero_add] at hown
    obtain ⟨a1, c1, rfl⟩ := row_slice hown
    go_wp2_with fail
    go_ret
    exact ⟨a1, c1, rfl, hown, ((Below.refl _ _).alloc (Nat.le_refl _) _).grown hgrow (by simp) (fun k e => by cases e; exact Nat.le_refl _)⟩

section
variable {gp : Nat} {most grow : Int} {l : Gl} {F : Nat → Prop} {s : Wrs} {w w' : World}

theorem put_get (T : List Tw1) (t : Tw1) (i : Nat) : (T ++ [t]).getD i t0 = if i = T.length then t else T.getD i t0 := by
  rw [List.getD_eq_getElem?_getD, List.getD_eq_getElem?_getD, List.getElem?_append]
  by_cases h : i < T.length
  · rw [if_pos h, if_neg (by omega)]
  · rw [if_neg h]
    by_cases e : i = T.length
    · subst e
      simp
    · rw [if_neg e, List.getElem?_eq_none (by simp; omega), List.getElem?_eq_none (by omega)]
theorem put_alv (T : List Tw1) (k : Int) (fl : List (Int × Int)) (i : Nat) : Alv (T ++ [(k, fl, false, false)]) i ↔ Alv T i ∨ i = T.length := by
  unfold Alv
  rw [put_get, List.length_append, List.length_singleton]
  by_cases e : i = T.length
  · rw [if_pos e]
    exact ⟨fun _ => Or.inr e, fun _ => ⟨by omega, rfl⟩⟩
  · rw [if_neg e]
    exact ⟨fun h => Or.inl ⟨by omega, h.2⟩, fun h => h.elim (fun h => ⟨by omega, h.2⟩) (fun h => absurd h e)⟩

theorem Gvy.new (h : Gvy gp most grow l s w) {kd : Int} {fl : List (Int × Int)} {a : Option Addr} {cp : Nat} (hs : w.heap.size ≤ w'.heap.size) (hk : ∀ b, l.own b ≠ 0 → l.own b ≠ 1 → l.own b ≠ 2 → w'.heap[b]? = w.heap[b]?)
    (hb : w'.heap[gp]? = some (.cells #[.int .i64 most, .int .i64 grow, .map (some l.mb), .int .i64 (s.T.length + 1 : Nat), .int .i64 l.ag, .pointer (some ⟨l.bp, 0, none⟩), .slice (some ⟨l.rb, 0, none⟩) 12 12] 56 (0, 0)))
    (hM : Mh w' l.mb (l.n + 1) (upm (gvF s.T l.fm) s.T.length (.agg #[.int .i64 kd, .slice a fl.length cp]))) (hR : w'.ownsRow 0 54 2 (.slice a fl.length cp) fl.length (ev fl))
    (hn : ∀ k, some k = (Value.slice a fl.length cp).ownBlock → l.own k = 0) :
    ∃ l', Gvy gp most grow l' (s.put kd fl) w' ∧ (∀ b, l'.own b ≠ 0 → l.own b ≠ 0 ∨ some b = (Value.slice a fl.length cp).ownBlock) ∧ l'.rb = l.rb := by
  have ho : ∀ b, l.own b ≠ 0 → (if some b = (Value.slice a fl.length cp).ownBlock then 10 + s.T.length else l.own b) = l.own b := fun b hb => if_neg (fun e => hb (hn b e))
  have ne : ∀ i, Alv s.T i → i ≠ s.T.length := fun i hi e => by have := hi.1; omega
  have gq : ∀ i, i ≠ s.T.length → (s.T ++ [(kd, fl, false, false)]).getD i t0 = s.T.getD i t0 := fun i e => by rw [put_get, if_neg e]
  have gn : (s.T ++ [(kd, fl, false, false)]).getD s.T.length t0 = (kd, fl, false, false) := by rw [put_get, if_pos rfl]
  have ef : upm (gvF s.T l.fm) s.T.length (.agg #[.int .i64 kd, .slice a fl.length cp]) = gvF (s.T ++ [(kd, fl, false, false)]) (fun i => if i = s.T.length then (a, cp) else l.fm i) := by
    funext x
    unfold upm
    by_cases e : x = s.T.length
    · rw [if_pos e, gvF_yes ⟨by omega, (put_alv _ _ _ _).2 (Or.inr (by omega))⟩]
      have e2 : x.toNat = s.T.length := by omega
      dsimp only [thV, fsV]
      rw [e2, gn, if_pos rfl]
    · rw [if_neg e]
      by_cases hx : 0 ≤ x ∧ Alv s.T x.toNat
      · have e2 : x.toNat ≠ s.T.length := ne _ hx.2
        rw [gvF_yes hx, gvF_yes ⟨hx.1, (put_alv _ _ _ _).2 (Or.inl hx.2)⟩]
        dsimp only [thV, fsV]
        rw [gq _ e2, if_neg e2]
      · rw [gvF_no hx, gvF_no (fun c => by
          rcases (put_alv _ _ _ _).1 c.2 with d | d
          · exact hx ⟨c.1, d⟩
          · exact e (by have := c.1; omega))]
  refine ⟨{ l with own := fun b => if some b = (Value.slice a fl.length cp).ownBlock then 10 + s.T.length else l.own b, fm := fun i => if i = s.T.length then (a, cp) else l.fm i, n := l.n + 1 }, ?_, fun b hb => ?_, rfl⟩
  · refine { blk := ?_, bo := (ho _ (by rw [h.bo]; decide)).trans h.bo, g2 := ?_, g3 := ?_, g4 := ?_, lt := fun b hb' => ?_ }
    · show _ = some (Obj.cells #[_, _, _, .int .i64 ((s.T ++ [(kd, fl, false, false)]).length : Nat), _, _, _] _ _)
      rw [List.length_append, List.length_singleton]
      exact hb
    · refine { mp := ?_, mn := ?_, mo := (ho _ (by rw [h.g2.mo]; decide)).trans h.g2.mo, fl := fun i hi => ?_, fo := fun i hi k e => ?_, ag := fun i hi => ?_, al := ?_ }
      · show Mh w' l.mb (l.n + 1) (gvF (s.T ++ [(kd, fl, false, false)]) _)
        rw [← ef]
        exact hM
      · have := h.g2.mn
        show l.n + 1 ≤ (s.T ++ [(kd, fl, false, false)]).length
        rw [List.length_append, List.length_singleton]
        omega
      · rcases (put_alv _ _ _ _).1 hi with d | d
        · dsimp only [fsV, Wrs.put]
          rw [gq i (ne i d), if_neg (ne i d)]
          exact row_keep (h.g2.fl i d) (fun k e => hk k (by rw [h.g2.fo i d k e]; omega) (by rw [h.g2.fo i d k e]; omega) (by rw [h.g2.fo i d k e]; omega))
        · dsimp only [fsV, Wrs.put]
          rw [d, gn, if_pos rfl]
          exact hR
      · rcases (put_alv _ _ _ _).1 hi with d | d
        · dsimp only [fsV, Wrs.put] at e
          rw [gq i (ne i d), if_neg (ne i d)] at e
          have := h.g2.fo i d k e
          exact (ho k (by rw [this]; omega)).trans this
        · dsimp only [fsV, Wrs.put] at e
          rw [d, gn, if_pos rfl] at e
          show (if _ then _ else _) = _
          rw [if_pos e, d]
      · rcases (put_alv _ _ _ _).1 hi with d | d
        · dsimp only [Wrs.put]
          rw [gq i (ne i d)]
          exact h.g2.ag i d
        · have := h.g2.al
          dsimp only [Wrs.put]
          rw [d, gn]
          simp
          exact this
      · have := h.g2.al
        show l.ag ≤ (s.T ++ [(kd, fl, false, false)]).length
        rw [List.length_append, List.length_singleton]
        omega
    · have z := h.g3.keep (w' := w') (fun b hb => hk b (by omega) (by omega) (by omega))
      exact { sd := z.sd, so := (ho _ (by rw [z.so]; decide)).trans z.so, ro := fun k e => (ho k (by rw [z.ro k e]; decide)).trans (z.ro k e), qo := fun k e => (ho k (by rw [z.qo k e]; decide)).trans (z.qo k e) }
    · have z := h.g4.keep (w' := w') (fun b hb => hk b (by omega) (by omega) (by omega))
      exact { rt := z.rt, rl := z.rl, ro := (ho _ (by rw [z.ro]; decide)).trans z.ro }
    · dsimp only at hb'
      split at hb'
      · rename_i e
        exact (row_lt hR b e).2
      · exact Nat.lt_of_lt_of_le (h.lt b hb') hs
  · dsimp only at hb
    split at hb
    · exact Or.inr (by assumption)
    · exact Or.inl hb
end

end Go.Proofs.YtogknhogphkddaaGreat
