/- Joined: Mj27, Mj28, Mk2. -/
import Derived.Test.YtalgochmjddodaaGreatJ22
namespace Go.Proofs.YtalgochmjddodaaGreat
open Go.RowKit W Kp Stl
abbrev nuB (a : Wc) (mq ps : Nat) (yv ov : Value) : Obj := .cells #[.pointer (some ⟨a.pw, 0, none⟩), yv, ov, .map (some mq), .pointer (some ⟨ps, 0, none⟩), .slice none 0 0, .slice none 0 0] 133 (0, 0)
structure Nu (a : Wc) (S : Ww) (w : World) (pk mq ps : Nat) (b0 : Option Addr) (d0 : Nat) (b1 : Option Addr) (d1 : Nat) (yv ov : Value) (T : List Int) (w' : World) : Prop where
  bl : Below w.heap.size w w'
  cb : w'.heap[pk]? = some (nuB a mq ps yv ov)
  sd : Sds w' ps b0 d0 b1 d1 S.r S.q
  mp : Mp w' mq T (fun _ => -1)
  mq0 : w.heap.size = mq
  mp1 : mq < ps
  pp : ps < pk
  l0 : ∀ k, some k = (Value.slice b0 S.r.length d0).ownBlock -> mq < k /\ k < pk
  l1 : ∀ k, some k = (Value.slice b1 S.q.length d1).ownBlock -> mq < k /\ k < pk
  ln : ∀ k, some k = (Value.slice b0 S.r.length d0).ownBlock -> some k ≠ (Value.slice b1 S.q.length d1).ownBlock
section
variable {a : Wc} {S : Ww} {w w' w'' : World} {pk mq ps : Nat} {b0 b1 : Option Addr} {d0 d1 : Nat} {yv ov : Value} {T : List Int}
theorem Nu.fr {X : Nat -> Prop} (h : Nu a S w pk mq ps b0 d0 b1 d1 yv ov T w') (f : Fr X w' w'') (hX : ∀ b, X b -> pk < b) : Nu a S w pk mq ps b0 d0 b1 d1 yv ov T w'' := by
  have h1 := h.mq0
  have h2 := h.mp1
  have h3 := h.pp
  have h4 := lt_of_some h.cb
  have hk : ∀ b, b <= pk -> w''.heap[b]? = w'.heap[b]? := fun b hb => f.block b (by omega) (fun d => by have := hX b d; omega)
  exact { bl := ⟨f.os.trans h.bl.os, f.tape.trans h.bl.tape, f.output.trans h.bl.output, Nat.le_trans h.bl.size f.size, fun b hb => (hk b (by omega)).trans (h.bl.block b hb)⟩
          cb := (hk pk (Nat.le_refl _)).trans h.cb
          sd := ⟨(hk ps (by omega)).trans h.sd.blk, row_keep h.sd.r0 (fun b e => hk b (by have := (h.l0 b e).2; omega)), row_keep h.sd.q0 (fun b e => hk b (by have := (h.l1 b e).2; omega))⟩
          mp := h.mp.same (hk mq (by omega))
          mq0 := h.mq0, mp1 := h.mp1, pp := h.pp, l0 := h.l0, l1 := h.l1, ln := h.ln }
theorem Nu.below (h : Nu a S w pk mq ps b0 d0 b1 d1 yv ov T w') (f : Below w'.heap.size w' w'') : Nu a S w pk mq ps b0 d0 b1 d1 yv ov T w'' := h.fr (Fr.of (X := fun _ => False) f) (fun _ d => d.elim)
theorem Nu.set (h : Nu a S w pk mq ps b0 d0 b1 d1 yv ov T w') (i : Nat) (v : Value) {yv' ov' : Value} (e : (w'.setCell ⟨pk, i, none⟩ v).heap[pk]? = some (nuB a mq ps yv' ov')) : Nu a S w pk mq ps b0 d0 b1 d1 yv' ov' T (w'.setCell ⟨pk, i, none⟩ v) := by
  have h1 := h.mq0
  have h2 := h.mp1
  have h3 := h.pp
  have f : Fr (fun b => b = pk) w' (w'.setCell ⟨pk, i, none⟩ v) := (Fr.refl _ w').set pk i v rfl
  have hk : ∀ b, b < pk -> (w'.setCell ⟨pk, i, none⟩ v).heap[b]? = w'.heap[b]? := fun b hb => f.block b (by have := lt_of_some h.cb; omega) (fun d => by omega)
  exact { bl := ⟨f.os.trans h.bl.os, f.tape.trans h.bl.tape, f.output.trans h.bl.output, Nat.le_trans h.bl.size f.size, fun b hb => (hk b (by omega)).trans (h.bl.block b hb)⟩
          cb := e
          sd := ⟨(hk ps (by omega)).trans h.sd.blk, row_keep h.sd.r0 (fun b e => hk b (h.l0 b e).2), row_keep h.sd.q0 (fun b e => hk b (h.l1 b e).2)⟩
          mp := h.mp.same (hk mq (by omega))
          mq0 := h.mq0, mp1 := h.mp1, pp := h.pp, l0 := h.l0, l1 := h.l1, ln := h.ln }
theorem Nu.set1 (h : Nu a S w pk mq ps b0 d0 b1 d1 yv ov T w') (v : Value) : Nu a S w pk mq ps b0 d0 b1 d1 v ov T (w'.setCell ⟨pk, 1, none⟩ v) := h.set 1 v (by
 simp only [World.setCell, Array.getElem?_modify, if_true, h.cb, Option.map_some]
 simp)
theorem Nu.set2 (h : Nu a S w pk mq ps b0 d0 b1 d1 yv ov T w') (v : Value) : Nu a S w pk mq ps b0 d0 b1 d1 yv v T (w'.setCell ⟨pk, 2, none⟩ v) := h.set 2 v (by
 simp only [World.setCell, Array.getElem?_modify, if_true, h.cb, Option.map_some]
 simp)
theorem Nu.add {x : Int} (h : Nu a S w pk mq ps b0 d0 b1 d1 yv ov T w') (f : Fr (fun b => b = mq) w' w'') (hm : Mp w'' mq (T ++ [x]) (fun _ => -1)) : Nu a S w pk mq ps b0 d0 b1 d1 yv ov (T ++ [x]) w'' := by
  have h1 := h.mq0
  have h2 := h.mp1
  have h3 := h.pp
  have h4 := lt_of_some h.cb
  have hk : ∀ b, b <= pk -> b ≠ mq -> w''.heap[b]? = w'.heap[b]? := fun b hb hn => f.block b (by omega) (fun d => hn d)
  exact { bl := ⟨f.os.trans h.bl.os, f.tape.trans h.bl.tape, f.output.trans h.bl.output, Nat.le_trans h.bl.size f.size, fun b hb => (hk b (by omega) (by omega)).trans (h.bl.block b hb)⟩
          cb := (hk pk (Nat.le_refl _) (by omega)).trans h.cb
          sd := ⟨(hk ps (by omega) (by omega)).trans h.sd.blk, row_keep h.sd.r0 (fun b e => hk b (by have := (h.l0 b e).2; omega) (by have := (h.l0 b e).1; omega)), row_keep h.sd.q0 (fun b e => hk b (by have := (h.l1 b e).2; omega) (by have := (h.l1 b e).1; omega))⟩
          mp := hm
          mq0 := h.mq0, mp1 := h.mp1, pp := h.pp, l0 := h.l0, l1 := h.l1, ln := h.ln }
theorem Nu.cells (h : Nu a S w pk mq ps b0 d0 b1 d1 yv ov T w') : w'.cell? ⟨pk, 0, none⟩ = some (.pointer (some ⟨a.pw, 0, none⟩)) /\ w'.cell? ⟨pk, 1, none⟩ = some yv /\ w'.cell? ⟨pk, 2, none⟩ = some ov /\ w'.cell? ⟨pk, 3, none⟩ = some (.map (some mq)) /\ (∀ i, w'.frozen? ⟨pk, i, none⟩ = false) /\ pk < w'.heap.size := by
 have h2 := h.cb
 refine ⟨?_, ?_, ?_, ?_, fun i => ?_, lt_of_some h2⟩
 all_goals first | simp [World.cell?, h2] | simp [World.frozen?, h2]
theorem Nu.done {FW : Nat -> Prop} {ya ga : Option Addr} {yc gc : Nat} (hw : (wodO a).J FW S.s w) (hJ : JI (S.s.j0 a) js0) (h : Nu a S w pk mq ps b0 d0 b1 d1 (.slice ya (S.s.j0 a).Y.length yc) (.slice ga (S.s.j0 a).G.length gc) (S.s.j0 a).T w')
    (yr : w'.ownsRow (pk + 1) 3 1 (.slice ya (S.s.j0 a).Y.length yc) (S.s.j0 a).Y.length ((S.s.j0 a).Y.map (Value.int .i64))) (gr : w'.ownsRow (pk + 1) 3 1 (.slice ga (S.s.j0 a).G.length gc) (S.s.j0 a).G.length ((S.s.j0 a).G.map (Value.int .i64))) (hn : ∀ b, some b = (Value.slice ya (S.s.j0 a).Y.length yc).ownBlock -> some b ≠ (Value.slice ga (S.s.j0 a).G.length gc).ownBlock) :
    ∃ F', (mkSd (mjI ⟨pk, mq, ps, .slice ya (S.s.j0 a).Y.length yc, .slice ga (S.s.j0 a).G.length gc⟩ (S.s.j0 a)) ps (.slice b0 S.r.length d0)).J F' (js0, S.q) w' /\ (∀ b, some b = (Value.slice b0 S.r.length d0).ownBlock -> ¬ F' b /\ w.heap.size <= b) /\ (∀ b, F' b -> FW b \/ w.heap.size <= b) := by
  have m0 := h.mq0
  have m1 := h.mp1
  have m2 := h.pp
  have lk := lt_of_some h.cb
  have hlt := (wodO a).lt hw
  classical
  obtain ⟨own, hown⟩ : ∃ own : Nat -> Nat, own = fun b => if FW b then 1 else if b = pk then 5 else if b = mq then 6 else if some b = (Value.slice ya (S.s.j0 a).Y.length yc).ownBlock then 9 else if some b = (Value.slice ga (S.s.j0 a).G.length gc).ownBlock then 10 else 0 := ⟨_, rfl⟩
  have nW : ∀ b, w.heap.size <= b -> ¬ FW b := fun b hb d => by have := hlt b d; omega
  have o1 : ∀ b, FW b ↔ own b = 1 := fun b => by
    rw [hown]
    dsimp only
    by_cases d : FW b
    · simp [d]
    · rw [if_neg d]
      refine ⟨fun e => absurd e d, fun e => ?_⟩
      split at e
      · omega
      · split at e
        · omega
        · split at e
          · omega
          · split at e <;> omega
  have ok : own pk = 5 := by rw [hown]; dsimp only; rw [if_neg (nW pk (by omega)), if_pos rfl]
  have om : own mq = 6 := by rw [hown]; dsimp only; rw [if_neg (nW mq (by omega)), if_neg (by omega), if_pos rfl]
  have oy : ∀ b, some b = (Value.slice ya (S.s.j0 a).Y.length yc).ownBlock -> own b = 9 := fun b e => by
    have q := (row_lt yr b e).1
    rw [hown]
    dsimp only
    rw [if_neg (nW b (by omega)), if_neg (by omega), if_neg (by omega), if_pos e]
  have og : ∀ b, some b = (Value.slice ga (S.s.j0 a).G.length gc).ownBlock -> own b = 10 := fun b e => by
    have q := (row_lt gr b e).1
    rw [hown]
    dsimp only
    rw [if_neg (nW b (by omega)), if_neg (by omega), if_neg (by omega), if_neg (fun e2 => hn b e2 e), if_pos e]
  have ol : ∀ b, own b ≠ 0 -> b < w'.heap.size /\ (FW b \/ b = pk \/ b = mq \/ pk < b) := fun b hb => by
    rw [hown] at hb
    dsimp only at hb
    by_cases d : FW b
    · have := hlt b d
      have := h.bl.size
      exact ⟨by omega, Or.inl d⟩
    · rw [if_neg d] at hb
      by_cases e1 : b = pk
      · exact ⟨by omega, Or.inr (Or.inl e1)⟩
      · rw [if_neg e1] at hb
        by_cases e2 : b = mq
        · exact ⟨by omega, Or.inr (Or.inr (Or.inl e2))⟩
        · rw [if_neg e2] at hb
          by_cases e3 : some b = (Value.slice ya (S.s.j0 a).Y.length yc).ownBlock
          · have := row_lt yr b e3
            exact ⟨this.2, Or.inr (Or.inr (Or.inr (by omega)))⟩
          · rw [if_neg e3] at hb
            by_cases e4 : some b = (Value.slice ga (S.s.j0 a).G.length gc).ownBlock
            · have := row_lt gr b e4
              exact ⟨this.2, Or.inr (Or.inr (Or.inr (by omega)))⟩
            · rw [if_neg e4] at hb
              exact absurd rfl hb
  clear hown
  have HM : (mjI ⟨pk, mq, ps, .slice ya (S.s.j0 a).Y.length yc, .slice ga (S.s.j0 a).G.length gc⟩ (S.s.j0 a)).J (fun b => own b ≠ 0) js0 w' := by
    refine ⟨⟨.slice none 0 0, .slice none 0 0, FW, own, ?_, fun b => Iff.rfl⟩, hJ⟩
    exact { wd := (wodO a).keep hw h.bl.size (fun b hb => h.bl.block b (hlt b hb))
            w1 := o1
            cb := h.cb
            k1 := ok
            mp := h.mp
            m1 := om
            tr := World.ownsRow_nil _ _ _ _
            to_ := fun b e => by simp [Value.ownBlock] at e
            er := World.ownsRow_nil _ _ _ _
            eo := fun b e => by simp [Value.ownBlock] at e
            yr := row_base yr (fun _ _ => Nat.zero_le _)
            yo := oy
            gr := row_base gr (fun _ _ => Nat.zero_le _)
            go := og
            lt := fun b hb => (ol b hb).1 }
  have nps : ¬ own ps ≠ 0 := fun d => by
    rcases (ol ps d).2 with q | q | q | q
    · exact nW ps (by omega) q
    · omega
    · omega
    · omega
  have n1 : ∀ k, mq < k -> k < pk -> ¬ own k ≠ 0 := fun k k1 k2 d => by
    rcases (ol k d).2 with q | q | q | q
    · exact nW k (by omega) q
    · omega
    · omega
    · omega
  have npr : ∀ k, some k = (Value.slice b0 S.r.length d0).ownBlock -> k ≠ ps := fun k e e' => by
    obtain ⟨cs, hc⟩ := row_type h.sd.r0 k e
    rw [e', h.sd.blk] at hc
    simp at hc
  refine ⟨fun b => own b ≠ 0 \/ b = ps \/ some b = (Value.slice b1 S.q.length d1).ownBlock, ⟨fun b => own b ≠ 0, b1, d1, HM, h.sd.blk, h.sd.q0, fun k hk => Or.inl hk, Or.inr (Or.inl rfl), nps, fun k e => ⟨Or.inr (Or.inr e), n1 k (h.l1 k e).1 (h.l1 k e).2⟩, fun k hk => ?_⟩, fun b e => ⟨fun d => ?_, by have := (h.l0 b e).1; omega⟩, fun b d => ?_⟩
  · rcases hk with d | d | d
    · exact (ol k d).1
    · omega
    · have := (h.l1 k d).2
      omega
  · rcases d with d | d | d
    · exact n1 b (h.l0 b e).1 (h.l0 b e).2 d
    · exact npr b e d
    · exact h.ln b e d
  · rcases d with d | d | d
    · rcases (ol b d).2 with q | q | q | q
      · exact Or.inl q
      · exact Or.inr (by omega)
      · exact Or.inr (by omega)
      · exact Or.inr (by omega)
    · exact Or.inr (by omega)
    · have := (h.l1 b d).1
      exact Or.inr (by omega)
end
end Go.Proofs.YtalgochmjddodaaGreat

namespace Go.Proofs.YtalgochmjddodaaGreat
set_option maxRecDepth 100000
set_option maxHeartbeats 4000000
open Go.RowKit W Kp Stl
theorem newJ_any {a : Wc} {FW : Nat -> Prop} {S : Ww} {w : World} {a0 a1 : Option Addr} {k0 k1 : Nat} (hw : (wodO a).J FW S.s w) (hs : Sds w a.sd a0 k0 a1 k1 S.r S.q) (h0 : S.r.length <= 90000) (h1 : S.q.length <= 90000) :
  Calls Tryz.prog 72 #[.pointer (some ⟨a.pw, 0, none⟩)] w fun e w' => ∃ (c : Jc) (ar : Option Addr) (cr : Nat) (F' : Nat -> Prop), e = .returned (.pointer (some ⟨c.pk, 0, none⟩)) /\ (mkSd (mjI c (S.s.j0 a)) c.bs (.slice ar S.r.length cr)).J F' (js0, S.q) w' /\ w'.ownsRow 0 101 2 (.slice ar S.r.length cr) S.r.length (ev S.r) /\ (∀ b, some b = (Value.slice ar S.r.length cr).ownBlock -> ¬ F' b /\ w.heap.size <= b) /\ (∀ b, F' b -> FW b \/ w.heap.size <= b) /\ Below w.heap.size w w' := by
 have hmm := @run_makeMap Tryz.prog
 obtain ⟨c0, _, c2, _, lpw, _⟩ := wod_cells hw
 have hA := (wod_arena hw).1
 have n1 := hA.hN'
 have n2 := hA.hO
 have n3 := hA.hg
 have n4 := hA.hy
 have HJ : Hid (JI (S.s.j0 a) js0) := JI.start n1 n2 n4 n3
 have HW : Hid ((wodO a).J FW S.s w /\ At w a.p a.q a.N a.O S.s.y S.s.g S.s.ws) := ⟨hw, hA⟩
 have lsd := lt_of_some hs.blk
 have hB0 : Below w.heap.size w (w.alloc (.map #[] 0)) := (Below.refl _ w).alloc (Nat.le_refl _) _
 have P1 := copyS_any (w.alloc (.map #[] 0)) a.sd a0 a1 k0 k1 S.r S.q ⟨(hB0.block _ lsd).trans hs.blk, row_keep hs.r0 (fun b e => hB0.block b (row_lt hs.r0 b e).2), row_keep hs.q0 (fun b e => hB0.block b (row_lt hs.q0 b e).2)⟩ h0 h1
 have HM0 : Hid (Mp (w.alloc (.map #[] 0)) w.heap.size [] (fun _ => -1)) := ⟨_, World.ownsMap_made w Tryz.prog 3 (plainElem (H := Unit) Tryz.prog 3), fun _ => rfl, fun a ha => by simp at ha⟩
 clear hw hs hA hB0 lsd h0 h1
 go_enter Tryz.func72, Tryz.ntmps72
 go_wp2_with fail
 refine P1.mono ?_
 clear P1
 rintro e w1 ⟨ps, b0, d0, b1, d1, rfl, lps, hs1, g0, g1, gn, hb1⟩
 have hz1 := hb1.size
 simp only [World.size_alloc] at hz1 lps g0 g1
 have HN1 : Hid (Nu a S w w1.heap.size w.heap.size ps b0 d0 b1 d1 (.slice none 0 0) (.slice none 0 0) [] (w1.alloc (.cells #[.pointer (some ⟨a.pw, 0, none⟩), .slice none 0 0, .slice none 0 0, .map (some w.heap.size), .pointer (some ⟨ps, 0, none⟩), .slice none 0 0, .slice none 0 0] 133)) /\ (w1.alloc (.cells #[.pointer (some ⟨a.pw, 0, none⟩), .slice none 0 0, .slice none 0 0, .map (some w.heap.size), .pointer (some ⟨ps, 0, none⟩), .slice none 0 0, .slice none 0 0] 133)).heap.size = w1.heap.size + 1) := by
  have hba := (Below.refl w1.heap.size w1).alloc (Nat.le_refl _) (.cells #[.pointer (some ⟨a.pw, 0, none⟩), .slice none 0 0, .slice none 0 0, .map (some w.heap.size), .pointer (some ⟨ps, 0, none⟩), .slice none 0 0, .slice none 0 0] 133)
  have hb01 : Below w.heap.size w w1 := ((Below.refl _ w).alloc (Nat.le_refl _) (.map #[] 0)).trans (hb1.mono (by simp))
  refine ⟨{ bl := hb01.trans (hba.mono (by omega)), cb := heap_alloc_new _ _, sd := ⟨(hba.block _ (lt_of_some hs1.blk)).trans hs1.blk, row_keep hs1.r0 (fun b e => hba.block b (row_lt hs1.r0 b e).2), row_keep hs1.q0 (fun b e => hba.block b (row_lt hs1.q0 b e).2)⟩, mp := (HM0.out.same (hb1.block _ (by simp))).same (hba.block _ (by omega)), mq0 := rfl, mp1 := by omega, pp := lt_of_some hs1.blk, l0 := fun k e => ⟨?_, (row_lt hs1.r0 k e).2⟩, l1 := fun k e => ⟨?_, (row_lt hs1.q0 k e).2⟩, ln := gn }, by simp⟩
  ·cases hb : b0 with
   | none => rw [hb] at e; simp [Value.ownBlock] at e
   | some z =>
    rw [hb] at e
    have e2 : k = z.block := by simpa [Value.ownBlock] using e
    have := g0 z hb
    omega
  ·cases hb : b1 with
   | none => rw [hb] at e; simp [Value.ownBlock] at e
   | some z =>
    rw [hb] at e
    have e2 : k = z.block := by simpa [Value.ownBlock] using e
    have := g1 z hb
    omega
 clear hs1 g0 g1 gn hb1 HM0 lps
 have x0 := (HN1.out.1.bl.cell (p := ⟨a.pw, 0, none⟩) lpw).trans c0
 have P2 := bounds_any _ (HW.out.2.below HN1.out.1.bl (Nat.le_refl _))
 go_wp2_with fail
 refine P2.mono ?_
 clear P2 x0
 rintro e w2 ⟨rfl, hb2⟩
 have HN2 : Hid (Nu a S w w1.heap.size w.heap.size ps b0 d0 b1 d1 (.slice none 0 0) (.slice none 0 0) [] w2 /\ w1.heap.size + 1 <= w2.heap.size) := ⟨HN1.out.1.below hb2, by have := hb2.size; have := HN1.out.2; omega⟩
 clear hb2 HN1
 have x0 := (HN2.out.1.bl.cell (p := ⟨a.pw, 0, none⟩) lpw).trans c0
 have P2 := used_any _ (HW.out.2.below HN2.out.1.bl (Nat.le_refl _))
 go_wp2_with fail
 refine P2.mono ?_
 clear P2 x0
 rintro e w3 ⟨rfl, hb3⟩
 have HN3 : Hid (Nu a S w w1.heap.size w.heap.size ps b0 d0 b1 d1 (.slice none 0 0) (.slice none 0 0) [] w3 /\ w1.heap.size + 1 <= w3.heap.size) := ⟨HN2.out.1.below hb3, by have := hb3.size; have := HN2.out.2; omega⟩
 clear hb3 HN2
 have x0 := (HN3.out.1.bl.cell (p := ⟨a.pw, 0, none⟩) lpw).trans c0
 have P2 := things2_any _ (HW.out.2.below HN3.out.1.bl (Nat.le_refl _))
 go_wp2_with fail
 refine P2.mono ?_
 clear P2 x0
 rintro e w4 ⟨v1, v2, rfl, ho1, ho2, hap, hb4⟩
 obtain ⟨y1, m1, rfl⟩ := row_slice ho1
 obtain ⟨y2, m2, rfl⟩ := row_slice ho2
 have HN4 : Hid (Nu a S w w1.heap.size w.heap.size ps b0 d0 b1 d1 (.slice none 0 0) (.slice none 0 0) [] w4 /\ w4.ownsRow (w1.heap.size + 1) 3 1 (.slice y1 (thY a.N S.s.y S.s.g S.s.ws).length m1) (thY a.N S.s.y S.s.g S.s.ws).length ((thY a.N S.s.y S.s.g S.s.ws).map (Value.int .i64)) /\ w4.ownsRow (w1.heap.size + 1) 3 1 (.slice y2 (thO a.N S.s.y S.s.g S.s.ws).length m2) (thO a.N S.s.y S.s.g S.s.ws).length ((thO a.N S.s.y S.s.g S.s.ws).map (Value.int .i64)) /\ (∀ b, some b = (Value.slice y1 (thY a.N S.s.y S.s.g S.s.ws).length m1).ownBlock -> some b ≠ (Value.slice y2 (thO a.N S.s.y S.s.g S.s.ws).length m2).ownBlock)) := ⟨HN3.out.1.below hb4, row_base ho1 (fun b e => Nat.le_trans HN3.out.2 (row_lt ho1 b e).1), row_base ho2 (fun b e => Nat.le_trans HN3.out.2 (row_lt ho2 b e).1), hap⟩
 clear hb4 HN3 ho1 ho2 hap
 have HL : Hid ((thY a.N S.s.y S.s.g S.s.ws).length <= 2000 /\ (thO a.N S.s.y S.s.g S.s.ws).length <= 2000 /\ (∀ x ∈ thY a.N S.s.y S.s.g S.s.ws, 0 <= x /\ x <= 2000) /\ ∀ x ∈ thO a.N S.s.y S.s.g S.s.ws, 0 <= x /\ x <= 2000) := ⟨ths_le _ _, ths_le _ _, fun x hx => by have := thY_bd x hx; omega, fun x hx => by have := thO_bd x hx; omega⟩
 have lB : w1.heap.size < w1.heap.size + 1 /\ a.pw < w1.heap.size + 1 /\ a.p < w1.heap.size + 1 /\ a.q < w1.heap.size + 1 := by
  have q1 := HW.out.2.ltp
  have q2 := HW.out.2.ltq
  omega
 obtain ⟨u0, u1, u2, u3, u4, u5⟩ := HN4.out.1.cells
 have x0 := (HN4.out.1.bl.cell (p := ⟨a.pw, 0, none⟩) lpw).trans c0
 have u6 := u4 1
 have P2 := wholeJ_any w4 (HW.out.2.below HN4.out.1.bl (Nat.le_refl _)) u0 x0 (thY a.N S.s.y S.s.g S.s.ws) y1 m1 (w1.heap.size + 1) (0 + S.s.y) (by have := HL.out.1; omega) (fun x hx => by have := HL.out.2.2.1 x hx; omega) HN4.out.2.1 lB
 rw [Int.zero_add] at P2
 have EY : Hid (kpL (fun x => decide ((S.s.y : Int) <= x + pf (ld a.N S.s.y S.s.g S.s.ws x))) (thY a.N S.s.y S.s.g S.s.ws) = (S.s.j0 a).Y) := rfl
 rw [EY.out] at P2
 clear u2 u3 u4 x0
 go_wp2_with fail
 refine P2.mono ?_
 clear P2 u0 u1 u5 u6
 rintro r w5 ⟨rfl, hr5, hf5⟩
 have hg5 : ∀ b, some b = (Value.slice y1 (thY a.N S.s.y S.s.g S.s.ws).length m1).ownBlock -> w1.heap.size < b := fun b e => (row_lt HN4.out.2.1 b e).1
 have HN5 : Hid (Nu a S w w1.heap.size w.heap.size ps b0 d0 b1 d1 (.slice none 0 0) (.slice none 0 0) [] w5 /\ w5.ownsRow (w1.heap.size + 1) 3 1 (.slice y1 (S.s.j0 a).Y.length m1) (S.s.j0 a).Y.length ((S.s.j0 a).Y.map (Value.int .i64)) /\ w5.ownsRow (w1.heap.size + 1) 3 1 (.slice y2 (thO a.N S.s.y S.s.g S.s.ws).length m2) (thO a.N S.s.y S.s.g S.s.ws).length ((thO a.N S.s.y S.s.g S.s.ws).map (Value.int .i64)) /\ (∀ n n' b, some b = (Value.slice y1 n m1).ownBlock -> some b ≠ (Value.slice y2 n' m2).ownBlock)) := by
  refine ⟨HN4.out.1.fr hf5 hg5, hr5, row_fr HN4.out.2.2.1 hf5 (fun b e e' => HN4.out.2.2.2 b e' e), fun n n' b e => ?_⟩
  have q := HN4.out.2.2.2 b (by
   cases y1 with
   | none => simp [Value.ownBlock] at e
   | some z => simpa [Value.ownBlock] using e)
  cases y2 with
  | none => simp [Value.ownBlock]
  | some z => simpa [Value.ownBlock] using q
 clear hr5 hf5 hg5 HN4
 obtain ⟨u0, u1, u2, u3, u4, u5⟩ := HN5.out.1.cells
 have u6 := u4 1
 have HN6 : Hid (Nu a S w w1.heap.size w.heap.size ps b0 d0 b1 d1 (.slice y1 (S.s.j0 a).Y.length m1) (.slice none 0 0) [] (w5.setCell ⟨w1.heap.size, 1, none⟩ (.slice y1 (S.s.j0 a).Y.length m1)) /\ (w5.setCell ⟨w1.heap.size, 1, none⟩ (.slice y1 (S.s.j0 a).Y.length m1)).ownsRow (w1.heap.size + 1) 3 1 (.slice y1 (S.s.j0 a).Y.length m1) (S.s.j0 a).Y.length ((S.s.j0 a).Y.map (Value.int .i64)) /\ (w5.setCell ⟨w1.heap.size, 1, none⟩ (.slice y1 (S.s.j0 a).Y.length m1)).ownsRow (w1.heap.size + 1) 3 1 (.slice y2 (thO a.N S.s.y S.s.g S.s.ws).length m2) (thO a.N S.s.y S.s.g S.s.ws).length ((thO a.N S.s.y S.s.g S.s.ws).map (Value.int .i64))) := by
  have f : Fr (fun b => b = w1.heap.size) w5 (w5.setCell ⟨w1.heap.size, 1, none⟩ (.slice y1 (S.s.j0 a).Y.length m1)) := (Fr.refl _ w5).set _ 1 _ rfl
  exact ⟨HN5.out.1.set1 _, row_fr HN5.out.2.1 f (fun b e e' => by have := (row_lt HN5.out.2.1 b e).1; omega), row_fr HN5.out.2.2.1 f (fun b e e' => by have := (row_lt HN5.out.2.2.1 b e).1; omega)⟩
 have HAP : Hid (∀ n n' b, some b = (Value.slice y1 n m1).ownBlock -> some b ≠ (Value.slice y2 n' m2).ownBlock) := HN5.out.2.2.2
 clear HN5 u0 u2 u3 u4
 obtain ⟨s0, s1, s2, s3, s4, s5⟩ := HN6.out.1.cells
 have x0 := (HN6.out.1.bl.cell (p := ⟨a.pw, 0, none⟩) lpw).trans c0
 have s6 := s4 2
 have P2 := wholeJ_any _ (HW.out.2.below HN6.out.1.bl (Nat.le_refl _)) s0 x0 (thO a.N S.s.y S.s.g S.s.ws) y2 m2 (w1.heap.size + 1) ((a.N : Int) + S.s.g) (by have := HL.out.2.1; omega) (fun x hx => by have := HL.out.2.2.2 x hx; omega) HN6.out.2.2 lB
 have EG : Hid (kpL (fun x => decide ((a.N : Int) + S.s.g <= x + pf (ld a.N S.s.y S.s.g S.s.ws x))) (thO a.N S.s.y S.s.g S.s.ws) = (S.s.j0 a).G) := rfl
 rw [EG.out] at P2
 clear s1 s2 s3 s4 x0
 go_wp2_with fail
 refine P2.mono ?_
 clear P2 s0 s5 s6 u1 u5 u6
 rintro r w6 ⟨rfl, hr6, hf6⟩
 have hg6 : ∀ b, some b = (Value.slice y2 (thO a.N S.s.y S.s.g S.s.ws).length m2).ownBlock -> w1.heap.size < b := fun b e => (row_lt HN6.out.2.2 b e).1
 have HN7 : Hid (Nu a S w w1.heap.size w.heap.size ps b0 d0 b1 d1 (.slice y1 (S.s.j0 a).Y.length m1) (.slice none 0 0) [] w6 /\ w6.ownsRow (w1.heap.size + 1) 3 1 (.slice y1 (S.s.j0 a).Y.length m1) (S.s.j0 a).Y.length ((S.s.j0 a).Y.map (Value.int .i64)) /\ w6.ownsRow (w1.heap.size + 1) 3 1 (.slice y2 (S.s.j0 a).G.length m2) (S.s.j0 a).G.length ((S.s.j0 a).G.map (Value.int .i64))) := ⟨HN6.out.1.fr hf6 hg6, row_fr HN6.out.2.1 hf6 (fun b e e' => HAP.out _ _ b e e'), hr6⟩
 clear hr6 hf6 hg6 HN6
 obtain ⟨u0, u1, u2, u3, u4, u5⟩ := HN7.out.1.cells
 have u6 := u4 2
 have HN8 : Hid (Nu a S w w1.heap.size w.heap.size ps b0 d0 b1 d1 (.slice y1 (S.s.j0 a).Y.length m1) (.slice y2 (S.s.j0 a).G.length m2) [] (w6.setCell ⟨w1.heap.size, 2, none⟩ (.slice y2 (S.s.j0 a).G.length m2)) /\ (w6.setCell ⟨w1.heap.size, 2, none⟩ (.slice y2 (S.s.j0 a).G.length m2)).ownsRow (w1.heap.size + 1) 3 1 (.slice y1 (S.s.j0 a).Y.length m1) (S.s.j0 a).Y.length ((S.s.j0 a).Y.map (Value.int .i64)) /\ (w6.setCell ⟨w1.heap.size, 2, none⟩ (.slice y2 (S.s.j0 a).G.length m2)).ownsRow (w1.heap.size + 1) 3 1 (.slice y2 (S.s.j0 a).G.length m2) (S.s.j0 a).G.length ((S.s.j0 a).G.map (Value.int .i64))) := by
  have f : Fr (fun b => b = w1.heap.size) w6 (w6.setCell ⟨w1.heap.size, 2, none⟩ (.slice y2 (S.s.j0 a).G.length m2)) := (Fr.refl _ w6).set _ 2 _ rfl
  exact ⟨HN7.out.1.set2 _, row_fr HN7.out.2.1 f (fun b e e' => by have := (row_lt HN7.out.2.1 b e).1; omega), row_fr HN7.out.2.2 f (fun b e e' => by have := (row_lt HN7.out.2.2 b e).1; omega)⟩
 clear HN7 u0 u1 u3 u4
 obtain ⟨s0, s1, s2, s3, s4, s5⟩ := HN8.out.1.cells
 have HT : Hid ((S.s.j0 a).T = (S.s.j0 a).G ++ (S.s.j0 a).Y /\ (S.s.j0 a).T.length = (S.s.j0 a).G.length + (S.s.j0 a).Y.length /\ (S.s.j0 a).T.length <= 4000 /\ ∀ x ∈ (S.s.j0 a).T, 0 <= x /\ x <= 2000) := ⟨rfl, by unfold Jk.T; rw [List.length_append], HJ.out.tl, HJ.out.ps⟩
 have hT1 := HT.out.2.1
 have hT2 := HT.out.2.2.1
 have P2 := allR_any _ w1.heap.size (S.s.j0 a).G (S.s.j0 a).Y y2 y1 m2 m1 s1 s2 (row_base HN8.out.2.1 (fun _ _ => Nat.zero_le _)) (row_base HN8.out.2.2 (fun _ _ => Nat.zero_le _)) (by omega)
 rw [<- hT1, <- HT.out.1] at P2
 clear s0 s1 s2 s3 s4 hT1
 go_wp2_with fail
 refine P2.mono ?_
 clear P2 s5 u2 u5 u6
 rintro e w7 ⟨za, zd, rfl, hr7, hb7⟩
 have HN9 : Hid (Nu a S w w1.heap.size w.heap.size ps b0 d0 b1 d1 (.slice y1 (S.s.j0 a).Y.length m1) (.slice y2 (S.s.j0 a).G.length m2) [] w7 /\ w7.ownsRow (w1.heap.size + 1) 3 1 (.slice y1 (S.s.j0 a).Y.length m1) (S.s.j0 a).Y.length ((S.s.j0 a).Y.map (Value.int .i64)) /\ w7.ownsRow (w1.heap.size + 1) 3 1 (.slice y2 (S.s.j0 a).G.length m2) (S.s.j0 a).G.length ((S.s.j0 a).G.map (Value.int .i64)) /\ w7.ownsRow (w1.heap.size + 1) 3 1 (.slice za (S.s.j0 a).T.length zd) (S.s.j0 a).T.length ((S.s.j0 a).T.map (Value.int .i64))) := ⟨HN8.out.1.below hb7, row_keep HN8.out.2.1 (fun b e => hb7.block b (row_lt HN8.out.2.1 b e).2), row_keep HN8.out.2.2 (fun b e => hb7.block b (row_lt HN8.out.2.2 b e).2), row_base hr7 (fun b e => by have := (row_lt hr7 b e).1; have q := HN8.out.1.cells.2.2.2.2.2; omega)⟩
 clear hr7 hb7 HN8
 go_wp2_with fail
 go_loopw [66] (fun iv wr => ∃ j : Nat, j <= (S.s.j0 a).T.length /\ iv = .int .i64 j /\ Hid (Nu a S w w1.heap.size w.heap.size ps b0 d0 b1 d1 (.slice y1 (S.s.j0 a).Y.length m1) (.slice y2 (S.s.j0 a).G.length m2) ((S.s.j0 a).T.take j) wr /\ Fr (fun b => b = w.heap.size) w7 wr)) (fun iv _ => (S.s.j0 a).T.length - (intOf iv).toNat)
 case atStart => exact ⟨0, Nat.zero_le _, rfl, HN9.out.1, Fr.refl _ _⟩
 case round =>
  obtain ⟨j, hj, rfl, HR⟩ := hrel
  by_cases hlt : j < (S.s.j0 a).T.length
  ·obtain ⟨zb, zo, ez, lz, hc⟩ := row_ints HN9.out.2.2.2 (by omega)
   have hzb : w1.heap.size < zb /\ zb < w7.heap.size := by
    have := row_lt HN9.out.2.2.2 zb (by rw [ez]; rfl)
    omega
   have x1 : wr.cell? ⟨zb, zo + j, none⟩ = some (.int .i64 ((S.s.j0 a).T.getD j 0)) := (World.cell?_of_block (a := ⟨zb, zo + j, none⟩) (HR.out.2.block zb hzb.2 (fun e => by have := HR.out.1.mp1; have := HR.out.1.pp; omega))).trans (hc j hlt)
   have hm : (S.s.j0 a).T.getD j 0 ∈ (S.s.j0 a).T := by
    rw [List.getD_eq_getElem?_getD, List.getElem?_eq_getElem hlt]
    exact List.getElem_mem hlt
   have hx := HT.out.2.2.2 _ hm
   have HTS : Hid ((S.s.j0 a).T.take (j + 1) = (S.s.j0 a).T.take j ++ [(S.s.j0 a).T.getD j 0]) := take_snoc _ j hlt 0
   generalize (S.s.j0 a).T.getD j 0 = x at x1 hx HTS
   obtain ⟨D, o1, o2, o3⟩ := HR.out.1.mp
   obtain ⟨s0, s1, s2, s3, s4, s5⟩ := HR.out.1.cells
   have hky := keyI (a := x) hx.1 (by omega)
   have hv := elI (-1) (by decide)
   have ht : ((S.s.j0 a).T.take j).length = j := by rw [List.length_take]; omega
   have HO : Hid (wr.ownsMap Tryz.prog 3 (plainElem Tryz.prog 3) w.heap.size ((S.s.j0 a).T.take j).length D /\ (∀ a_1 : Int, Maps.has D (.int .i64 a_1) = ((S.s.j0 a).T.take j).contains a_1) /\ ∀ a_1 ∈ (S.s.j0 a).T.take j, D.atKey (.int .i64 a_1) (.lit (.int .i64 0)) = .lit (.int .i64 (-1))) := ⟨o1, o2, o3⟩
   have j0 : (0 : Int) <= (j : Int) := by omega
   have j1 : (j : Int) < ((S.s.j0 a).T.length : Int) := by omega
   clear o2 o3 hc lz hm s0 s1 s2 s4
   subst ez
   go_wp2_with (first
    | (at_mapUpdate; refine wpList_mapUpdate_own _ rfl _ _ _ 104 rfl 3 3 lawI Tryz.underlying104 (plainElem (H := Unit) Tryz.prog 3) w.heap.size ((S.s.j0 a).T.take j).length D rfl o1 (by unfold maxLen; omega) _ _ _ rfl rfl hky _ [] hv ?_; intro w8 hown8 hgrow8)
    | go_in)
   have HR2 : Hid (Nu a S w w1.heap.size w.heap.size ps b0 d0 b1 d1 (.slice y1 (S.s.j0 a).Y.length m1) (.slice y2 (S.s.j0 a).G.length m2) ((S.s.j0 a).T.take (j + 1)) w8 /\ Fr (fun b => b = w.heap.size) w7 w8) := by
    have f8 : Fr (fun b => b = w.heap.size) wr w8 := (Fr.refl _ wr).grown hgrow8 (fun b e => Or.inl (by cases e; rfl))
    have M8 := Mp.add (f := fun _ => -1) HO.out.1 HO.out.2.1 HO.out.2.2 rfl rfl hown8
    have N8 := HR.out.1.add f8 M8
    rw [<- HTS.out] at N8
    exact ⟨N8, HR.out.2.trans f8 (fun b e => Or.inl e)⟩
   clear HR HO hown8 hgrow8 o1 x1 s3 s5 hky hv
   go_roundw
   case rel => exact ⟨j + 1, by omega, by go_num, HR2⟩
   case measure => simp [intOf]; omega
  ·obtain rfl : j = (S.s.j0 a).T.length := by omega
   have HZ : Hid (∃ (F' : Nat -> Prop), (mkSd (mjI ⟨w1.heap.size, w.heap.size, ps, .slice y1 (S.s.j0 a).Y.length m1, .slice y2 (S.s.j0 a).G.length m2⟩ (S.s.j0 a)) ps (.slice b0 S.r.length d0)).J F' (js0, S.q) wr /\ wr.ownsRow 0 101 2 (.slice b0 S.r.length d0) S.r.length (ev S.r) /\ (∀ b, some b = (Value.slice b0 S.r.length d0).ownBlock -> ¬ F' b /\ w.heap.size <= b) /\ (∀ b, F' b -> FW b \/ w.heap.size <= b) /\ Below w.heap.size w wr) := by
    obtain ⟨R1, R2⟩ := HR.out
    rw [List.take_length] at R1
    have ne : ∀ b, w1.heap.size + 1 <= b -> ¬ b = w.heap.size := fun b hb e => by have := R1.mp1; have := R1.pp; omega
    obtain ⟨F', q1, q2, q3⟩ := R1.done HW.out.1 HJ.out (row_fr HN9.out.2.1 R2 (fun b e => ne b (row_lt HN9.out.2.1 b e).1)) (row_fr HN9.out.2.2.1 R2 (fun b e => ne b (row_lt HN9.out.2.2.1 b e).1)) (fun b e => HAP.out _ _ b e)
    exact ⟨F', q1, R1.sd.r0, q2, q3, R1.bl⟩
   clear HR HN9
   go_wp2_with fail
   go_ret
   obtain ⟨F', q1, q2, q3, q4, q5⟩ := HZ.out
   exact ⟨⟨w1.heap.size, w.heap.size, ps, .slice y1 (S.s.j0 a).Y.length m1, .slice y2 (S.s.j0 a).G.length m2⟩, b0, d0, F', rfl, q1, q2, q3, q4, q5⟩
end Go.Proofs.YtalgochmjddodaaGreat

namespace Go.Proofs.YtalgochmjddodaaGreat
open Go.RowKit W Kp Stl
def Jk.k12 (k : Jk) : Prop := ∀ a ∈ k.T, pk (k.ld a) = 1 \/ pk (k.ld a) = 2
def Jk.flt (k : Jk) (s : Js) (a : Int) : Prop := ∀ i : Nat, (i : Int) < pf (k.ld a) -> k.jl s (k.ld (a + 1 + i)) = false
structure Mk (k : Jk) (C X : Int -> Prop) (s : Js) : Prop where
  ji : JI k s
  snd : ∀ a ∈ k.T, s.f a ≠ -1 -> C a
  self : ∀ a ∈ k.T, s.f a ≠ -1 -> s.f a = a
  td : ∀ a ∈ s.td, s.f a ≠ -1
  cmp : ∀ a ∈ k.T, s.f a ≠ -1 -> a ∈ s.td \/ X a \/ k.flt s a
  ep : s.ep = []
structure Jcl (k : Jk) (C : Int -> Prop) : Prop where
  rt : ∀ i, i < 12 -> k.jt (k.s.rs.getD i 0) = true -> C (aV (k.s.rs.getD i 0))
  fd : ∀ a ∈ k.T, C a -> ∀ i : Nat, (i : Int) < pf (k.ld a) -> k.jt (k.ld (a + 1 + i)) = true -> C (aV (k.ld (a + 1 + i)))
section
variable {k : Jk} {C X : Int -> Prop} {s : Js}
theorem Jk.jl_no {x : Int} (h : k.jt x = true) : k.jl s x = false ↔ s.f (aV x) ≠ -1 := by
 unfold Jk.jl
 rw [h, Bool.true_and, beq_eq_false_iff_ne]
theorem jt_mem {x : Int} (h : k.jt x = true) : aV x ∈ k.T := by
 unfold Jk.jt at h
 rw [Bool.and_eq_true] at h
 exact List.contains_iff_mem.1 h.2
structure Mle (k : Jk) (s t : Js) : Prop where
  f : ∀ b, s.f b ≠ -1 -> t.f b = s.f b
theorem Mle.jl {t : Js} (h : Mle k s t) {y : Int} (hy : k.jl s y = false) : k.jl t y = false := by
 cases hj : k.jt y
 ·unfold Jk.jl
  rw [hj]
  rfl
 ·rw [Jk.jl_no hj] at hy ⊢
  rw [h.f _ hy]
  exact hy
theorem Mle.refl (s : Js) : Mle k s s := ⟨fun _ _ => rfl⟩
theorem Mle.trans {t u : Js} (h : Mle k s t) (j : Mle k t u) : Mle k s u := ⟨fun b hb => by
 have e := h.f b hb
 rw [j.f b (by rw [e]; exact hb), e]⟩
theorem Mle.flt {t : Js} (h : Mle k s t) {a : Int} (ha : k.flt s a) : k.flt t a := fun i hi => h.jl (ha i hi)
theorem Mk.ma (h : Mk k C X s) (x : Int) (hx : k.jt x = true -> C (aV x)) : Mk k C X (k.ma s x) /\ Mle k s (k.ma s x) /\ k.jl (k.ma s x) x = false := by
 by_cases c : k.jl s x = true
 ·obtain ⟨h1, h2, h3⟩ := Jk.jl_yes c
  have hp := (h.ji.ps _ h2).1
  have hj : k.jt x = true := by
   unfold Jk.jl at c
   rw [Bool.and_eq_true] at c
   exact c.1
  have e : k.ma s x = { s with f := upf s.f (aV x) (aV x), td := s.td ++ [aV x] } := by unfold Jk.ma; rw [if_pos c]
  have ef : ∀ b, (k.ma s x).f b = if b = aV x then aV x else s.f b := fun b => by rw [e]; rfl
  have et : (k.ma s x).td = s.td ++ [aV x] := by rw [e]
  have le : Mle k s (k.ma s x) := ⟨fun b hb => by
   rw [ef, if_neg (fun e => hb (by rw [e]; exact h3))]⟩
  refine ⟨⟨(h.ji.ma x).1, fun b hb hf => ?_, fun b hb hf => ?_, fun b hb => ?_, fun b hb hf => ?_, by rw [e]; exact h.ep⟩, le, ?_⟩
  ·rw [ef] at hf
   by_cases d : b = aV x
   ·rw [d]; exact hx hj
   ·rw [if_neg d] at hf; exact h.snd b hb hf
  ·rw [ef] at hf ⊢
   by_cases d : b = aV x
   ·rw [if_pos d, d]
   ·rw [if_neg d] at hf ⊢; exact h.self b hb hf
  ·rw [et] at hb
   rw [ef]
   by_cases d : b = aV x
   ·rw [if_pos d]; omega
   ·rw [if_neg d]
    rcases List.mem_append.1 hb with hb | hb
    ·exact h.td b hb
    ·exact absurd (List.mem_singleton.1 hb) d
  ·rw [et]
   by_cases d : b = aV x
   ·exact Or.inl (by rw [d]; simp)
   ·rw [ef, if_neg d] at hf
    rcases h.cmp b hb hf with q | q | q
    ·exact Or.inl (List.mem_append_left _ q)
    ·exact Or.inr (Or.inl q)
    ·exact Or.inr (Or.inr (le.flt q))
  ·rw [Jk.jl_no hj, ef, if_pos rfl]
   omega
 ·have e : k.ma s x = s := by unfold Jk.ma; rw [if_neg c]
  rw [e]
  exact ⟨h, Mle.refl _, by simpa using c⟩
theorem Mk.mas (h : Mk k C X s) (a : Int) : ∀ n : Nat, (∀ i : Nat, i < n -> k.jt (k.ld (a + 1 + i)) = true -> C (aV (k.ld (a + 1 + i)))) -> Mk k C X (k.mas s a n) /\ Mle k s (k.mas s a n) /\ ∀ i : Nat, i < n -> k.jl (k.mas s a n) (k.ld (a + 1 + i)) = false
 | 0, _ => ⟨h, Mle.refl _, fun i hi => by omega⟩
 | n + 1, hC => by
  obtain ⟨h1, h2, h3⟩ := Mk.mas h a n (fun i hi => hC i (by omega))
  obtain ⟨j1, j2, j3⟩ := h1.ma (k.ld (a + 1 + n)) (hC n (by omega))
  refine ⟨j1, h2.trans j2, fun i hi => ?_⟩
  by_cases e : i = n
  ·rw [e]; exact j3
  ·exact j2.jl (h3 i (by omega))
theorem Mk.l1 (h : Mk k C (fun _ => False) s) (hk : k.k12) (hC : Jcl k C) (hl : 0 < s.td.length) : Mk k C (fun _ => False) (k.l1 s) /\ Mle k s (k.l1 s) := by
 obtain ⟨x, hx⟩ : ∃ x, s.td.getD (s.td.length - 1) 0 = x := ⟨_, rfl⟩
 have hm : x ∈ s.td := by
  rw [<- hx, List.getD_eq_getElem?_getD, List.getElem?_eq_getElem (by omega)]
  exact List.getElem_mem _
 have hT := h.ji.td x hm
 have hf := h.td x hm
 have htd : ∀ b, b ∈ s.td -> b ∈ s.td.take (s.td.length - 1) \/ b = x := fun b hb => by
  have e := take_snoc s.td (s.td.length - 1) (by omega) 0
  rw [show s.td.length - 1 + 1 = s.td.length from by omega, List.take_length, hx] at e
  have hb2 : b ∈ s.td.take (s.td.length - 1) ++ [x] := by
   rw [<- e]
   exact hb
  rcases List.mem_append.1 hb2 with hb | hb
  ·exact Or.inl hb
  ·exact Or.inr (List.mem_singleton.1 hb)
 have hs := h.ji.sum
 have el : (s.td.take (s.td.length - 1)).length = s.td.length - 1 := by rw [List.length_take]; omega
 have j0 : JI k { s with td := s.td.take (s.td.length - 1) } := ⟨h.ji.nd, h.ji.ps, fun a ha => h.ji.td a (List.mem_of_mem_take ha), h.ji.ep, h.ji.tl, by
  show k.lost s + (s.td.take (s.td.length - 1)).length + s.ep.length <= _
  omega⟩
 have h0 : Mk k C (fun b => b = x) { s with td := s.td.take (s.td.length - 1) } := ⟨j0, h.snd, h.self, fun a ha => h.td a (List.mem_of_mem_take ha), fun a ha hfa => by
  rcases h.cmp a ha hfa with q | q | q
  ·exact (htd a q).imp id Or.inl
  ·exact absurd q id
  ·exact Or.inr (Or.inr q), h.ep⟩
 have e1 : k.l1 s = k.mas { s with td := s.td.take (s.td.length - 1) } x (pf (k.ld x)).toNat := by
  unfold Jk.l1
  rw [hx]
  unfold Jk.lk
  rw [if_pos (hk x hT)]
 obtain ⟨m1, m2, m3⟩ := h0.mas x (pf (k.ld x)).toNat (fun i hi => hC.fd x hT (h.snd x hT hf) i (by omega))
 rw [e1]
 refine ⟨⟨m1.ji, m1.snd, m1.self, m1.td, fun a ha hfa => ?_, m1.ep⟩, ⟨fun b hb => m2.f b hb⟩⟩
 rcases m1.cmp a ha hfa with q | q | q
 ·exact Or.inl q
 ·rw [q]
  exact Or.inr (Or.inr (fun i hi => m3 i (by omega)))
 ·exact Or.inr (Or.inr q)
theorem Mk.lm (hk : k.k12) (hC : Jcl k C) : ∀ (n : Nat) {s : Js}, Mk k C (fun _ => False) s -> Mk k C (fun _ => False) (k.lm n s) /\ Mle k s (k.lm n s)
 | 0, s, h => ⟨h, Mle.refl _⟩
 | n + 1, s, h => by
  unfold Jk.lm
  by_cases c : 0 < s.td.length
  ·rw [if_pos c]
   obtain ⟨h1, h2⟩ := h.l1 hk hC c
   obtain ⟨j1, j2⟩ := Mk.lm hk hC n h1
   exact ⟨j1, h2.trans j2⟩
  ·rw [if_neg c]
   exact ⟨h, Mle.refl _⟩
theorem Mk.kr (h : Mk k C X s) (hC : Jcl k C) : ∀ n, n <= 12 -> Mk k C X (k.kr s n) /\ Mle k s (k.kr s n) /\ ∀ i, i < n -> k.jl (k.kr s n) (k.s.rs.getD i 0) = false
 | 0, _ => ⟨h, Mle.refl _, fun i hi => by omega⟩
 | n + 1, hn => by
  obtain ⟨h1, h2, h3⟩ := Mk.kr h hC n (by omega)
  obtain ⟨j1, j2, j3⟩ := h1.ma (k.s.rs.getD n 0) (hC.rt n (by omega))
  refine ⟨j1, h2.trans j2, fun i hi => ?_⟩
  by_cases e : i = n
  ·rw [e]; exact j3
  ·exact j2.jl (h3 i (by omega))
theorem Mk.start (h : JI k js0) : Mk k C X js0 := ⟨h, fun _ _ hf => absurd rfl hf, fun _ _ hf => absurd rfl hf, fun _ ha => by simp [js0] at ha, fun _ _ hf => absurd rfl hf, rfl⟩
structure Mkd (k : Jk) (C : Int -> Prop) (s : Js) : Prop where
  ji : JI k s
  snd : ∀ a ∈ k.T, s.f a ≠ -1 -> C a
  self : ∀ a ∈ k.T, s.f a ≠ -1 -> s.f a = a
  flt : ∀ a ∈ k.T, s.f a ≠ -1 -> k.flt s a
  rt : ∀ i, i < 12 -> k.jl s (k.s.rs.getD i 0) = false
theorem sp_empty {s : Js} (h : (k.LM s).ep = []) : k.sp (s, []) = (k.LM s, []) := by
 have e1 : k.kv (k.LM s) = (false, k.LM s) := by
  unfold Jk.kv Jk.kvf
  rw [h]
  simp only [List.foldl_nil, List.length_nil, Nat.lt_irrefl, decide_false]
  cases hs : k.LM s
  rw [hs] at h
  simp at h
  rw [h]
 unfold Jk.sp Jk.spr
 dsimp only
 rw [e1]
 rw [if_neg (by simp)]
 have e2 : k.wa (k.LM s, []) = ((k.LM s, []), false) := rfl
 rw [e2]
 simp
theorem Mk.done (hI : JI k js0) (hk : k.k12) (hC : Jcl k C) : k.sp (k.kr js0 12, []) = (k.LM (k.kr js0 12), []) /\ Mkd k C (k.LM (k.kr js0 12)) := by
 obtain ⟨h1, _, h3⟩ := (Mk.start (C := C) (X := fun _ => False) hI).kr hC 12 (Nat.le_refl _)
 obtain ⟨j1, j2⟩ := Mk.lm hk hC (k.lost (k.kr js0 12) + (k.kr js0 12).td.length + 1) h1
 have j1 : Mk k C (fun _ => False) (k.LM (k.kr js0 12)) := j1
 have j2 : Mle k (k.kr js0 12) (k.LM (k.kr js0 12)) := j2
 have ht := LM_td h1.ji
 refine ⟨sp_empty j1.ep, j1.ji, j1.snd, j1.self, fun a ha hf => ?_, fun i hi => j2.jl (h3 i hi)⟩
 rcases j1.cmp a ha hf with q | q | q
 ·rw [ht] at q; cases q
 ·exact absurd q id
 ·exact q
end
end Go.Proofs.YtalgochmjddodaaGreat
