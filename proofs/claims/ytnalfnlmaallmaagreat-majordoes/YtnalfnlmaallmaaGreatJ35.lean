/- Joined: Mj27, Mj28, Wl3, Wl4. -/
import Derived.Test.YtnalfnlmaallmaaGreatJ34
import Derived.Test.YtnalfnlmaallmaaGreatJ33
import Derived.Test.YtnalfnlmaallmaaGreatJ06
namespace Go.Proofs.YtnalfnlmaallmaaGreat
open Go.RowKit W Kp Stl
abbrev nuB (a : Wc) (mq ps : Nat) (yv ov : Value) : Obj := .cells #[.pointer (some ⟨a.pw, 0, none⟩), yv, ov, .map (some mq), .pointer (some ⟨ps, 0, none⟩), .slice none 0 0, .slice none 0 0] 198 (0, 0)
structure Nu (a : Wc) (S : Ww) (w : World) (pk mq ps : Nat) (b0 : Option Addr) (d0 : Nat) (b1 : Option Addr) (d1 : Nat) (yv ov : Value) (T : List Int) (w' : World) : Prop where
  bl : Below w.heap.size w w'
  cb : w'.heap[pk]? = some (nuB a mq ps yv ov)
  sd : Sds w' ps b0 d0 b1 d1 S.r S.q
  mp : Mp w' mq T (fun _ => -1)
  mq0 : w.heap.size = mq
  mp1 : mq < ps
  pp : ps < pk
  l0 : ∀ k, some k = (Value.slice b0 S.r.length d0).ownBlock -> mq < k /\ k < pk
  l1 : ∀ k, some k = (Value.slice b1 S.q.length d1).ownBlock -> mq < k /\ k < pk
  ln : ∀ k, some k = (Value.slice b0 S.r.length d0).ownBlock -> some k ≠ (Value.slice b1 S.q.length d1).ownBlock
section
variable {a : Wc} {S : Ww} {w w' w'' : World} {pk mq ps : Nat} {b0 b1 : Option Addr} {d0 d1 : Nat} {yv ov : Value} {T : List Int}
theorem Nu.fr {X : Nat -> Prop} (h : Nu a S w pk mq ps b0 d0 b1 d1 yv ov T w') (f : Fr X w' w'') (hX : ∀ b, X b -> pk < b) : Nu a S w pk mq ps b0 d0 b1 d1 yv ov T w'' := by
  have h1 := h.mq0
  have h2 := h.mp1
  have h3 := h.pp
  have h4 := lt_of_some h.cb
  have hk : ∀ b, b <= pk -> w''.heap[b]? = w'.heap[b]? := fun b hb => f.block b (by omega) (fun d => by have := hX b d; omega)
  exact { bl := ⟨f.os.trans h.bl.os, f.tape.trans h.bl.tape, f.output.trans h.bl.output, Nat.le_trans h.bl.size f.size, fun b hb => (hk b (by omega)).trans (h.bl.block b hb)⟩
          cb := (hk pk (Nat.le_refl _)).trans h.cb
          sd := ⟨(hk ps (by omega)).trans h.sd.blk, row_keep h.sd.r0 (fun b e => hk b (by have := (h.l0 b e).2; omega)), row_keep h.sd.q0 (fun b e => hk b (by have := (h.l1 b e).2; omega))⟩
          mp := h.mp.same (hk mq (by omega))
          mq0 := h.mq0, mp1 := h.mp1, pp := h.pp, l0 := h.l0, l1 := h.l1, ln := h.ln }
theorem Nu.below (h : Nu a S w pk mq ps b0 d0 b1 d1 yv ov T w') (f : Below w'.heap.size w' w'') : Nu a S w pk mq ps b0 d0 b1 d1 yv ov T w'' := h.fr (Fr.of (X := fun _ => False) f) (fun _ d => d.elim)
theorem Nu.set (h : Nu a S w pk mq ps b0 d0 b1 d1 yv ov T w') (i : Nat) (v : Value) {yv' ov' : Value} (e : (w'.setCell ⟨pk, i, none⟩ v).heap[pk]? = some (nuB a mq ps yv' ov')) : Nu a S w pk mq ps b0 d0 b1 d1 yv' ov' T (w'.setCell ⟨pk, i, none⟩ v) := by
  have h1 := h.mq0
  have h2 := h.mp1
  have h3 := h.pp
  have f : Fr (fun b => b = pk) w' (w'.setCell ⟨pk, i, none⟩ v) := (Fr.refl _ w').set pk i v rfl
  have hk : ∀ b, b < pk -> (w'.setCell ⟨pk, i, none⟩ v).heap[b]? = w'.heap[b]? := fun b hb => f.block b (by have := lt_of_some h.cb; omega) (fun d => by omega)
  exact { bl := ⟨f.os.trans h.bl.os, f.tape.trans h.bl.tape, f.output.trans h.bl.output, Nat.le_trans h.bl.size f.size, fun b hb => (hk b (by omega)).trans (h.bl.block b hb)⟩
          cb := e
          sd := ⟨(hk ps (by omega)).trans h.sd.blk, row_keep h.sd.r0 (fun b e => hk b (h.l0 b e).2), row_keep h.sd.q0 (fun b e => hk b (h.l1 b e).2)⟩
          mp := h.mp.same (hk mq (by omega))
          mq0 := h.mq0, mp1 := h.mp1, pp := h.pp, l0 := h.l0, l1 := h.l1, ln := h.ln }
theorem Nu.set1 (h : Nu a S w pk mq ps b0 d0 b1 d1 yv ov T w') (v : Value) : Nu a S w pk mq ps b0 d0 b1 d1 v ov T (w'.setCell ⟨pk, 1, none⟩ v) := h.set 1 v (by
 simp only [World.setCell, Array.getElem?_modify, if_true, h.cb, Option.map_some]
 simp)
theorem Nu.set2 (h : Nu a S w pk mq ps b0 d0 b1 d1 yv ov T w') (v : Value) : Nu a S w pk mq ps b0 d0 b1 d1 yv v T (w'.setCell ⟨pk, 2, none⟩ v) := h.set 2 v (by
 simp only [World.setCell, Array.getElem?_modify, if_true, h.cb, Option.map_some]
 simp)
theorem Nu.add {x : Int} (h : Nu a S w pk mq ps b0 d0 b1 d1 yv ov T w') (f : Fr (fun b => b = mq) w' w'') (hm : Mp w'' mq (T ++ [x]) (fun _ => -1)) : Nu a S w pk mq ps b0 d0 b1 d1 yv ov (T ++ [x]) w'' := by
  have h1 := h.mq0
  have h2 := h.mp1
  have h3 := h.pp
  have h4 := lt_of_some h.cb
  have hk : ∀ b, b <= pk -> b ≠ mq -> w''.heap[b]? = w'.heap[b]? := fun b hb hn => f.block b (by omega) (fun d => hn d)
  exact { bl := ⟨f.os.trans h.bl.os, f.tape.trans h.bl.tape, f.output.trans h.bl.output, Nat.le_trans h.bl.size f.size, fun b hb => (hk b (by omega) (by omega)).trans (h.bl.block b hb)⟩
          cb := (hk pk (Nat.le_refl _) (by omega)).trans h.cb
          sd := ⟨(hk ps (by omega) (by omega)).trans h.sd.blk, row_keep h.sd.r0 (fun b e => hk b (by have := (h.l0 b e).2; omega) (by have := (h.l0 b e).1; omega)), row_keep h.sd.q0 (fun b e => hk b (by have := (h.l1 b e).2; omega) (by have := (h.l1 b e).1; omega))⟩
          mp := hm
          mq0 := h.mq0, mp1 := h.mp1, pp := h.pp, l0 := h.l0, l1 := h.l1, ln := h.ln }
theorem Nu.cells (h : Nu a S w pk mq ps b0 d0 b1 d1 yv ov T w') : w'.cell? ⟨pk, 0, none⟩ = some (.pointer (some ⟨a.pw, 0, none⟩)) /\ w'.cell? ⟨pk, 1, none⟩ = some yv /\ w'.cell? ⟨pk, 2, none⟩ = some ov /\ w'.cell? ⟨pk, 3, none⟩ = some (.map (some mq)) /\ (∀ i, w'.frozen? ⟨pk, i, none⟩ = false) /\ pk < w'.heap.size := by
 have h2 := h.cb
 refine ⟨?_, ?_, ?_, ?_, fun i => ?_, lt_of_some h2⟩
 all_goals first | simp [World.cell?, h2] | simp [World.frozen?, h2]
theorem Nu.done {FW : Nat -> Prop} {ya ga : Option Addr} {yc gc : Nat} (hw : (wodO a).J FW S.s w) (hJ : JI (S.s.j0 a) js0) (h : Nu a S w pk mq ps b0 d0 b1 d1 (.slice ya (S.s.j0 a).Y.length yc) (.slice ga (S.s.j0 a).G.length gc) (S.s.j0 a).T w')
    (yr : w'.ownsRow (pk + 1) 3 1 (.slice ya (S.s.j0 a).Y.length yc) (S.s.j0 a).Y.length ((S.s.j0 a).Y.map (Value.int .i64))) (gr : w'.ownsRow (pk + 1) 3 1 (.slice ga (S.s.j0 a).G.length gc) (S.s.j0 a).G.length ((S.s.j0 a).G.map (Value.int .i64))) (hn : ∀ b, some b = (Value.slice ya (S.s.j0 a).Y.length yc).ownBlock -> some b ≠ (Value.slice ga (S.s.j0 a).G.length gc).ownBlock) :
    ∃ F', (mkSd (mjI ⟨pk, mq, ps, .slice ya (S.s.j0 a).Y.length yc, .slice ga (S.s.j0 a).G.length gc⟩ (S.s.j0 a)) ps (.slice b0 S.r.length d0)).J F' (js0, S.q) w' /\ (∀ b, some b = (Value.slice b0 S.r.length d0).ownBlock -> ¬ F' b /\ w.heap.size <= b) /\ (∀ b, F' b -> FW b \/ w.heap.size <= b) := by
  have m0 := h.mq0
  have m1 := h.mp1
  have m2 := h.pp
  have lk := lt_of_some h.cb
  have hlt := (wodO a).lt hw
  classical
  obtain ⟨own, hown⟩ : ∃ own : Nat -> Nat, own = fun b => if FW b then 1 else if b = pk then 5 else if b = mq then 6 else if some b = (Value.slice ya (S.s.j0 a).Y.length yc).ownBlock then 9 else if some b = (Value.slice ga (S.s.j0 a).G.length gc).ownBlock then 10 else 0 := ⟨_, rfl⟩
  have nW : ∀ b, w.heap.size <= b -> ¬ FW b := fun b hb d => by have := hlt b d; omega
  have o1 : ∀ b, FW b ↔ own b = 1 := fun b => by
    rw [hown]
    dsimp only
    by_cases d : FW b
    · simp [d]
    · rw [if_neg d]
      refine ⟨fun e => absurd e d, fun e => ?_⟩
      split at e
      · omega
      · split at e
        · omega
        · split at e
          · omega
          · split at e <;> omega
  have ok : own pk = 5 := by rw [hown]; dsimp only; rw [if_neg (nW pk (by omega)), if_pos rfl]
  have om : own mq = 6 := by rw [hown]; dsimp only; rw [if_neg (nW mq (by omega)), if_neg (by omega), if_pos rfl]
  have oy : ∀ b, some b = (Value.slice ya (S.s.j0 a).Y.length yc).ownBlock -> own b = 9 := fun b e => by
    have q := (row_lt yr b e).1
    rw [hown]
    dsimp only
    rw [if_neg (nW b (by omega)), if_neg (by omega), if_neg (by omega), if_pos e]
  have og : ∀ b, some b = (Value.slice ga (S.s.j0 a).G.length gc).ownBlock -> own b = 10 := fun b e => by
    have q := (row_lt gr b e).1
    rw [hown]
    dsimp only
    rw [if_neg (nW b (by omega)), if_neg (by omega), if_neg (by omega), if_neg (fun e2 => hn b e2 e), if_pos e]
  have ol : ∀ b, own b ≠ 0 -> b < w'.heap.size /\ (FW b \/ b = pk \/ b = mq \/ pk < b) := fun b hb => by
    rw [hown] at hb
    dsimp only at hb
    by_cases d : FW b
    · have := hlt b d
      have := h.bl.size
      exact ⟨by omega, Or.inl d⟩
    · rw [if_neg d] at hb
      by_cases e1 : b = pk
      · exact ⟨by omega, Or.inr (Or.inl e1)⟩
      · rw [if_neg e1] at hb
        by_cases e2 : b = mq
        · exact ⟨by omega, Or.inr (Or.inr (Or.inl e2))⟩
        · rw [if_neg e2] at hb
          by_cases e3 : some b = (Value.slice ya (S.s.j0 a).Y.length yc).ownBlock
          · have := row_lt yr b e3
            exact ⟨this.2, Or.inr (Or.inr (Or.inr (by omega)))⟩
          · rw [if_neg e3] at hb
            by_cases e4 : some b = (Value.slice ga (S.s.j0 a).G.length gc).ownBlock
            · have := row_lt gr b e4
              exact ⟨this.2, Or.inr (Or.inr (Or.inr (by omega)))⟩
            · rw [if_neg e4] at hb
              exact absurd rfl hb
  clear hown
  have HM : (mjI ⟨pk, mq, ps, .slice ya (S.s.j0 a).Y.length yc, .slice ga (S.s.j0 a).G.length gc⟩ (S.s.j0 a)).J (fun b => own b ≠ 0) js0 w' := by
    refine ⟨⟨.slice none 0 0, .slice none 0 0, FW, own, ?_, fun b => Iff.rfl⟩, hJ⟩
    exact { wd := (wodO a).keep hw h.bl.size (fun b hb => h.bl.block b (hlt b hb))
            w1 := o1
            cb := h.cb
            k1 := ok
            mp := h.mp
            m1 := om
            tr := World.ownsRow_nil _ _ _ _
            to_ := fun b e => by simp [Value.ownBlock] at e
            er := World.ownsRow_nil _ _ _ _
            eo := fun b e => by simp [Value.ownBlock] at e
            yr := row_base yr (fun _ _ => Nat.zero_le _)
            yo := oy
            gr := row_base gr (fun _ _ => Nat.zero_le _)
            go := og
            lt := fun b hb => (ol b hb).1 }
  have nps : ¬ own ps ≠ 0 := fun d => by
    rcases (ol ps d).2 with q | q | q | q
    · exact nW ps (by omega) q
    · omega
    · omega
    · omega
  have n1 : ∀ k, mq < k -> k < pk -> ¬ own k ≠ 0 := fun k k1 k2 d => by
    rcases (ol k d).2 with q | q | q | q
    · exact nW k (by omega) q
    · omega
    · omega
    · omega
  have npr : ∀ k, some k = (Value.slice b0 S.r.length d0).ownBlock -> k ≠ ps := fun k e e' => by
    obtain ⟨cs, hc⟩ := row_type h.sd.r0 k e
    rw [e', h.sd.blk] at hc
    simp at hc
  refine ⟨fun b => own b ≠ 0 \/ b = ps \/ some b = (Value.slice b1 S.q.length d1).ownBlock, ⟨fun b => own b ≠ 0, b1, d1, HM, h.sd.blk, h.sd.q0, fun k hk => Or.inl hk, Or.inr (Or.inl rfl), nps, fun k e => ⟨Or.inr (Or.inr e), n1 k (h.l1 k e).1 (h.l1 k e).2⟩, fun k hk => ?_⟩, fun b e => ⟨fun d => ?_, by have := (h.l0 b e).1; omega⟩, fun b d => ?_⟩
  · rcases hk with d | d | d
    · exact (ol k d).1
    · omega
    · have := (h.l1 k d).2
      omega
  · rcases d with d | d | d
    · exact n1 b (h.l0 b e).1 (h.l0 b e).2 d
    · exact npr b e d
    · exact h.ln b e d
  · rcases d with d | d | d
    · rcases (ol b d).2 with q | q | q | q
      · exact Or.inl q
      · exact Or.inr (by omega)
      · exact Or.inr (by omega)
      · exact Or.inr (by omega)
    · exact Or.inr (by omega)
    · have := (h.l1 b d).1
      exact Or.inr (by omega)
end
end Go.Proofs.YtnalfnlmaallmaaGreat

namespace Go.Proofs.YtnalfnlmaallmaaGreat
set_option maxRecDepth 100000
set_option maxHeartbeats 4000000
open Go.RowKit W Kp Stl
theorem newJ_any {a : Wc} {FW : Nat -> Prop} {S : Ww} {w : World} {a0 a1 : Option Addr} {k0 k1 : Nat} (hw : (wodO a).J FW S.s w) (hs : Sds w a.sd a0 k0 a1 k1 S.r S.q) (h0 : S.r.length <= 90000) (h1 : S.q.length <= 90000) :
  Calls Tryz.prog 146 #[.pointer (some ⟨a.pw, 0, none⟩)] w fun e w' => ∃ (c : Jc) (ar : Option Addr) (cr : Nat) (F' : Nat -> Prop), e = .returned (.pointer (some ⟨c.pk, 0, none⟩)) /\ (mkSd (mjI c (S.s.j0 a)) c.bs (.slice ar S.r.length cr)).J F' (js0, S.q) w' /\ w'.ownsRow 0 106 2 (.slice ar S.r.length cr) S.r.length (ev S.r) /\ (∀ b, some b = (Value.slice ar S.r.length cr).ownBlock -> ¬ F' b /\ w.heap.size <= b) /\ (∀ b, F' b -> FW b \/ w.heap.size <= b) /\ Below w.heap.size w w' := by
 have hmm := @run_makeMap Tryz.prog
 obtain ⟨c0, _, c2, _, lpw, _⟩ := wod_cells hw
 have hA := (wod_arena hw).1
 have n1 := hA.hN'
 have n2 := hA.hO
 have n3 := hA.hg
 have n4 := hA.hy
 have HJ : Hid (JI (S.s.j0 a) js0) := JI.start n1 n2 n4 n3
 have HW : Hid ((wodO a).J FW S.s w /\ At w a.p a.q a.N a.O S.s.y S.s.g S.s.ws) := ⟨hw, hA⟩
 have lsd := lt_of_some hs.blk
 have hB0 : Below w.heap.size w (w.alloc (.map #[] 0)) := (Below.refl _ w).alloc (Nat.le_refl _) _
 have P1 := copyS_any (w.alloc (.map #[] 0)) a.sd a0 a1 k0 k1 S.r S.q ⟨(hB0.block _ lsd).trans hs.blk, row_keep hs.r0 (fun b e => hB0.block b (row_lt hs.r0 b e).2), row_keep hs.q0 (fun b e => hB0.block b (row_lt hs.q0 b e).2)⟩ h0 h1
 have HM0 : Hid (Mp (w.alloc (.map #[] 0)) w.heap.size [] (fun _ => -1)) := ⟨_, World.ownsMap_made w Tryz.prog 3 (plainElem (H := Unit) Tryz.prog 3), fun _ => rfl, fun a ha => by simp at ha⟩
 clear hw hs hA hB0 lsd h0 h1
 go_enter Tryz.func146, Tryz.ntmps146
 go_wp2_with fail
 refine P1.mono ?_
 clear P1
 rintro e w1 ⟨ps, b0, d0, b1, d1, rfl, lps, hs1, g0, g1, gn, hb1⟩
 have hz1 := hb1.size
 simp only [World.size_alloc] at hz1 lps g0 g1
 have HN1 : Hid (Nu a S w w1.heap.size w.heap.size ps b0 d0 b1 d1 (.slice none 0 0) (.slice none 0 0) [] (w1.alloc (.cells #[.pointer (some ⟨a.pw, 0, none⟩), .slice none 0 0, .slice none 0 0, .map (some w.heap.size), .pointer (some ⟨ps, 0, none⟩), .slice none 0 0, .slice none 0 0] 198)) /\ (w1.alloc (.cells #[.pointer (some ⟨a.pw, 0, none⟩), .slice none 0 0, .slice none 0 0, .map (some w.heap.size), .pointer (some ⟨ps, 0, none⟩), .slice none 0 0, .slice none 0 0] 198)).heap.size = w1.heap.size + 1) := by
  have hba := (Below.refl w1.heap.size w1).alloc (Nat.le_refl _) (.cells #[.pointer (some ⟨a.pw, 0, none⟩), .slice none 0 0, .slice none 0 0, .map (some w.heap.size), .pointer (some ⟨ps, 0, none⟩), .slice none 0 0, .slice none 0 0] 198)
  have hb01 : Below w.heap.size w w1 := ((Below.refl _ w).alloc (Nat.le_refl _) (.map #[] 0)).trans (hb1.mono (by simp))
  refine ⟨{ bl := hb01.trans (hba.mono (by omega)), cb := heap_alloc_new _ _, sd := ⟨(hba.block _ (lt_of_some hs1.blk)).trans hs1.blk, row_keep hs1.r0 (fun b e => hba.block b (row_lt hs1.r0 b e).2), row_keep hs1.q0 (fun b e => hba.block b (row_lt hs1.q0 b e).2)⟩, mp := (HM0.out.same (hb1.block _ (by simp))).same (hba.block _ (by omega)), mq0 := rfl, mp1 := by omega, pp := lt_of_some hs1.blk, l0 := fun k e => ⟨?_, (row_lt hs1.r0 k e).2⟩, l1 := fun k e => ⟨?_, (row_lt hs1.q0 k e).2⟩, ln := gn }, by simp⟩
  ·cases hb : b0 with
   | none => rw [hb] at e; simp [Value.ownBlock] at e
   | some z =>
    rw [hb] at e
    have e2 : k = z.block := by simpa [Value.ownBlock] using e
    have := g0 z hb
    omega
  ·cases hb : b1 with
   | none => rw [hb] at e; simp [Value.ownBlock] at e
   | some z =>
    rw [hb] at e
    have e2 : k = z.block := by simpa [Value.ownBlock] using e
    have := g1 z hb
    omega
 clear hs1 g0 g1 gn hb1 HM0 lps
 have x0 := (HN1.out.1.bl.cell (p := ⟨a.pw, 0, none⟩) lpw).trans c0
 have P2 := bounds_any _ (HW.out.2.below HN1.out.1.bl (Nat.le_refl _))
 go_wp2_with fail
 refine P2.mono ?_
 clear P2 x0
 rintro e w2 ⟨rfl, hb2⟩
 have HN2 : Hid (Nu a S w w1.heap.size w.heap.size ps b0 d0 b1 d1 (.slice none 0 0) (.slice none 0 0) [] w2 /\ w1.heap.size + 1 <= w2.heap.size) := ⟨HN1.out.1.below hb2, by have := hb2.size; have := HN1.out.2; omega⟩
 clear hb2 HN1
 have x0 := (HN2.out.1.bl.cell (p := ⟨a.pw, 0, none⟩) lpw).trans c0
 have P2 := used_any _ (HW.out.2.below HN2.out.1.bl (Nat.le_refl _))
 go_wp2_with fail
 refine P2.mono ?_
 clear P2 x0
 rintro e w3 ⟨rfl, hb3⟩
 have HN3 : Hid (Nu a S w w1.heap.size w.heap.size ps b0 d0 b1 d1 (.slice none 0 0) (.slice none 0 0) [] w3 /\ w1.heap.size + 1 <= w3.heap.size) := ⟨HN2.out.1.below hb3, by have := hb3.size; have := HN2.out.2; omega⟩
 clear hb3 HN2
 have x0 := (HN3.out.1.bl.cell (p := ⟨a.pw, 0, none⟩) lpw).trans c0
 have P2 := things2_any _ (HW.out.2.below HN3.out.1.bl (Nat.le_refl _))
 go_wp2_with fail
 refine P2.mono ?_
 clear P2 x0
 rintro e w4 ⟨v1, v2, rfl, ho1, ho2, hap, hb4⟩
 obtain ⟨y1, m1, rfl⟩ := row_slice ho1
 obtain ⟨y2, m2, rfl⟩ := row_slice ho2
 have HN4 : Hid (Nu a S w w1.heap.size w.heap.size ps b0 d0 b1 d1 (.slice none 0 0) (.slice none 0 0) [] w4 /\ w4.ownsRow (w1.heap.size + 1) 3 1 (.slice y1 (thY a.N S.s.y S.s.g S.s.ws).length m1) (thY a.N S.s.y S.s.g S.s.ws).length ((thY a.N S.s.y S.s.g S.s.ws).map (Value.int .i64)) /\ w4.ownsRow (w1.heap.size + 1) 3 1 (.slice y2 (thO a.N S.s.y S.s.g S.s.ws).length m2) (thO a.N S.s.y S.s.g S.s.ws).length ((thO a.N S.s.y S.s.g S.s.ws).map (Value.int .i64)) /\ (∀ b, some b = (Value.slice y1 (thY a.N S.s.y S.s.g S.s.ws).length m1).ownBlock -> some b ≠ (Value.slice y2 (thO a.N S.s.y S.s.g S.s.ws).length m2).ownBlock)) := ⟨HN3.out.1.below hb4, row_base ho1 (fun b e => Nat.le_trans HN3.out.2 (row_lt ho1 b e).1), row_base ho2 (fun b e => Nat.le_trans HN3.out.2 (row_lt ho2 b e).1), hap⟩
 clear hb4 HN3 ho1 ho2 hap
 have HL : Hid ((thY a.N S.s.y S.s.g S.s.ws).length <= 2000 /\ (thO a.N S.s.y S.s.g S.s.ws).length <= 2000 /\ (∀ x ∈ thY a.N S.s.y S.s.g S.s.ws, 0 <= x /\ x <= 2000) /\ ∀ x ∈ thO a.N S.s.y S.s.g S.s.ws, 0 <= x /\ x <= 2000) := ⟨ths_le _ _, ths_le _ _, fun x hx => by have := thY_bd x hx; omega, fun x hx => by have := thO_bd x hx; omega⟩
 have lB : w1.heap.size < w1.heap.size + 1 /\ a.pw < w1.heap.size + 1 /\ a.p < w1.heap.size + 1 /\ a.q < w1.heap.size + 1 := by
  have q1 := HW.out.2.ltp
  have q2 := HW.out.2.ltq
  omega
 obtain ⟨u0, u1, u2, u3, u4, u5⟩ := HN4.out.1.cells
 have x0 := (HN4.out.1.bl.cell (p := ⟨a.pw, 0, none⟩) lpw).trans c0
 have u6 := u4 1
 have P2 := wholeJ_any w4 (HW.out.2.below HN4.out.1.bl (Nat.le_refl _)) u0 x0 (thY a.N S.s.y S.s.g S.s.ws) y1 m1 (w1.heap.size + 1) (0 + S.s.y) (by have := HL.out.1; omega) (fun x hx => by have := HL.out.2.2.1 x hx; omega) HN4.out.2.1 lB
 rw [Int.zero_add] at P2
 have EY : Hid (kpL (fun x => decide ((S.s.y : Int) <= x + pf (ld a.N S.s.y S.s.g S.s.ws x))) (thY a.N S.s.y S.s.g S.s.ws) = (S.s.j0 a).Y) := rfl
 rw [EY.out] at P2
 clear u2 u3 u4 x0
 go_wp2_with fail
 refine P2.mono ?_
 clear P2 u0 u1 u5 u6
 rintro r w5 ⟨rfl, hr5, hf5⟩
 have hg5 : ∀ b, some b = (Value.slice y1 (thY a.N S.s.y S.s.g S.s.ws).length m1).ownBlock -> w1.heap.size < b := fun b e => (row_lt HN4.out.2.1 b e).1
 have HN5 : Hid (Nu a S w w1.heap.size w.heap.size ps b0 d0 b1 d1 (.slice none 0 0) (.slice none 0 0) [] w5 /\ w5.ownsRow (w1.heap.size + 1) 3 1 (.slice y1 (S.s.j0 a).Y.length m1) (S.s.j0 a).Y.length ((S.s.j0 a).Y.map (Value.int .i64)) /\ w5.ownsRow (w1.heap.size + 1) 3 1 (.slice y2 (thO a.N S.s.y S.s.g S.s.ws).length m2) (thO a.N S.s.y S.s.g S.s.ws).length ((thO a.N S.s.y S.s.g S.s.ws).map (Value.int .i64)) /\ (∀ n n' b, some b = (Value.slice y1 n m1).ownBlock -> some b ≠ (Value.slice y2 n' m2).ownBlock)) := by
  refine ⟨HN4.out.1.fr hf5 hg5, hr5, row_fr HN4.out.2.2.1 hf5 (fun b e e' => HN4.out.2.2.2 b e' e), fun n n' b e => ?_⟩
  have q := HN4.out.2.2.2 b (by
   cases y1 with
   | none => simp [Value.ownBlock] at e
   | some z => simpa [Value.ownBlock] using e)
  cases y2 with
  | none => simp [Value.ownBlock]
  | some z => simpa [Value.ownBlock] using q
 clear hr5 hf5 hg5 HN4
 obtain ⟨u0, u1, u2, u3, u4, u5⟩ := HN5.out.1.cells
 have u6 := u4 1
 have HN6 : Hid (Nu a S w w1.heap.size w.heap.size ps b0 d0 b1 d1 (.slice y1 (S.s.j0 a).Y.length m1) (.slice none 0 0) [] (w5.setCell ⟨w1.heap.size, 1, none⟩ (.slice y1 (S.s.j0 a).Y.length m1)) /\ (w5.setCell ⟨w1.heap.size, 1, none⟩ (.slice y1 (S.s.j0 a).Y.length m1)).ownsRow (w1.heap.size + 1) 3 1 (.slice y1 (S.s.j0 a).Y.length m1) (S.s.j0 a).Y.length ((S.s.j0 a).Y.map (Value.int .i64)) /\ (w5.setCell ⟨w1.heap.size, 1, none⟩ (.slice y1 (S.s.j0 a).Y.length m1)).ownsRow (w1.heap.size + 1) 3 1 (.slice y2 (thO a.N S.s.y S.s.g S.s.ws).length m2) (thO a.N S.s.y S.s.g S.s.ws).length ((thO a.N S.s.y S.s.g S.s.ws).map (Value.int .i64))) := by
  have f : Fr (fun b => b = w1.heap.size) w5 (w5.setCell ⟨w1.heap.size, 1, none⟩ (.slice y1 (S.s.j0 a).Y.length m1)) := (Fr.refl _ w5).set _ 1 _ rfl
  exact ⟨HN5.out.1.set1 _, row_fr HN5.out.2.1 f (fun b e e' => by have := (row_lt HN5.out.2.1 b e).1; omega), row_fr HN5.out.2.2.1 f (fun b e e' => by have := (row_lt HN5.out.2.2.1 b e).1; omega)⟩
 have HAP : Hid (∀ n n' b, some b = (Value.slice y1 n m1).ownBlock -> some b ≠ (Value.slice y2 n' m2).ownBlock) := HN5.out.2.2.2
 clear HN5 u0 u2 u3 u4
 obtain ⟨s0, s1, s2, s3, s4, s5⟩ := HN6.out.1.cells
 have x0 := (HN6.out.1.bl.cell (p := ⟨a.pw, 0, none⟩) lpw).trans c0
 have s6 := s4 2
 have P2 := wholeJ_any _ (HW.out.2.below HN6.out.1.bl (Nat.le_refl _)) s0 x0 (thO a.N S.s.y S.s.g S.s.ws) y2 m2 (w1.heap.size + 1) ((a.N : Int) + S.s.g) (by have := HL.out.2.1; omega) (fun x hx => by have := HL.out.2.2.2 x hx; omega) HN6.out.2.2 lB
 have EG : Hid (kpL (fun x => decide ((a.N : Int) + S.s.g <= x + pf (ld a.N S.s.y S.s.g S.s.ws x))) (thO a.N S.s.y S.s.g S.s.ws) = (S.s.j0 a).G) := rfl
 rw [EG.out] at P2
 clear s1 s2 s3 s4 x0
 go_wp2_with fail
 refine P2.mono ?_
 clear P2 s0 s5 s6 u1 u5 u6
 rintro r w6 ⟨rfl, hr6, hf6⟩
 have hg6 : ∀ b, some b = (Value.slice y2 (thO a.N S.s.y S.s.g S.s.ws).length m2).ownBlock -> w1.heap.size < b := fun b e => (row_lt HN6.out.2.2 b e).1
 have HN7 : Hid (Nu a S w w1.heap.size w.heap.size ps b0 d0 b1 d1 (.slice y1 (S.s.j0 a).Y.length m1) (.slice none 0 0) [] w6 /\ w6.ownsRow (w1.heap.size + 1) 3 1 (.slice y1 (S.s.j0 a).Y.length m1) (S.s.j0 a).Y.length ((S.s.j0 a).Y.map (Value.int .i64)) /\ w6.ownsRow (w1.heap.size + 1) 3 1 (.slice y2 (S.s.j0 a).G.length m2) (S.s.j0 a).G.length ((S.s.j0 a).G.map (Value.int .i64))) := ⟨HN6.out.1.fr hf6 hg6, row_fr HN6.out.2.1 hf6 (fun b e e' => HAP.out _ _ b e e'), hr6⟩
 clear hr6 hf6 hg6 HN6
 obtain ⟨u0, u1, u2, u3, u4, u5⟩ := HN7.out.1.cells
 have u6 := u4 2
 have HN8 : Hid (Nu a S w w1.heap.size w.heap.size ps b0 d0 b1 d1 (.slice y1 (S.s.j0 a).Y.length m1) (.slice y2 (S.s.j0 a).G.length m2) [] (w6.setCell ⟨w1.heap.size, 2, none⟩ (.slice y2 (S.s.j0 a).G.length m2)) /\ (w6.setCell ⟨w1.heap.size, 2, none⟩ (.slice y2 (S.s.j0 a).G.length m2)).ownsRow (w1.heap.size + 1) 3 1 (.slice y1 (S.s.j0 a).Y.length m1) (S.s.j0 a).Y.length ((S.s.j0 a).Y.map (Value.int .i64)) /\ (w6.setCell ⟨w1.heap.size, 2, none⟩ (.slice y2 (S.s.j0 a).G.length m2)).ownsRow (w1.heap.size + 1) 3 1 (.slice y2 (S.s.j0 a).G.length m2) (S.s.j0 a).G.length ((S.s.j0 a).G.map (Value.int .i64))) := by
  have f : Fr (fun b => b = w1.heap.size) w6 (w6.setCell ⟨w1.heap.size, 2, none⟩ (.slice y2 (S.s.j0 a).G.length m2)) := (Fr.refl _ w6).set _ 2 _ rfl
  exact ⟨HN7.out.1.set2 _, row_fr HN7.out.2.1 f (fun b e e' => by have := (row_lt HN7.out.2.1 b e).1; omega), row_fr HN7.out.2.2 f (fun b e e' => by have := (row_lt HN7.out.2.2 b e).1; omega)⟩
 clear HN7 u0 u1 u3 u4
 obtain ⟨s0, s1, s2, s3, s4, s5⟩ := HN8.out.1.cells
 have HT : Hid ((S.s.j0 a).T = (S.s.j0 a).G ++ (S.s.j0 a).Y /\ (S.s.j0 a).T.length = (S.s.j0 a).G.length + (S.s.j0 a).Y.length /\ (S.s.j0 a).T.length <= 4000 /\ ∀ x ∈ (S.s.j0 a).T, 0 <= x /\ x <= 2000) := ⟨rfl, by unfold Jk.T; rw [List.length_append], HJ.out.tl, HJ.out.ps⟩
 have hT1 := HT.out.2.1
 have hT2 := HT.out.2.2.1
 have P2 := allR_any _ w1.heap.size (S.s.j0 a).G (S.s.j0 a).Y y2 y1 m2 m1 s1 s2 (row_base HN8.out.2.1 (fun _ _ => Nat.zero_le _)) (row_base HN8.out.2.2 (fun _ _ => Nat.zero_le _)) (by omega)
 rw [<- hT1, <- HT.out.1] at P2
 clear s0 s1 s2 s3 s4 hT1
 go_wp2_with fail
 refine P2.mono ?_
 clear P2 s5 u2 u5 u6
 rintro e w7 ⟨za, zd, rfl, hr7, hb7⟩
 have HN9 : Hid (Nu a S w w1.heap.size w.heap.size ps b0 d0 b1 d1 (.slice y1 (S.s.j0 a).Y.length m1) (.slice y2 (S.s.j0 a).G.length m2) [] w7 /\ w7.ownsRow (w1.heap.size + 1) 3 1 (.slice y1 (S.s.j0 a).Y.length m1) (S.s.j0 a).Y.length ((S.s.j0 a).Y.map (Value.int .i64)) /\ w7.ownsRow (w1.heap.size + 1) 3 1 (.slice y2 (S.s.j0 a).G.length m2) (S.s.j0 a).G.length ((S.s.j0 a).G.map (Value.int .i64)) /\ w7.ownsRow (w1.heap.size + 1) 3 1 (.slice za (S.s.j0 a).T.length zd) (S.s.j0 a).T.length ((S.s.j0 a).T.map (Value.int .i64))) := ⟨HN8.out.1.below hb7, row_keep HN8.out.2.1 (fun b e => hb7.block b (row_lt HN8.out.2.1 b e).2), row_keep HN8.out.2.2 (fun b e => hb7.block b (row_lt HN8.out.2.2 b e).2), row_base hr7 (fun b e => by have := (row_lt hr7 b e).1; have q := HN8.out.1.cells.2.2.2.2.2; omega)⟩
 clear hr7 hb7 HN8
 go_wp2_with fail
 go_loopw [66] (fun iv wr => ∃ j : Nat, j <= (S.s.j0 a).T.length /\ iv = .int .i64 j /\ Hid (Nu a S w w1.heap.size w.heap.size ps b0 d0 b1 d1 (.slice y1 (S.s.j0 a).Y.length m1) (.slice y2 (S.s.j0 a).G.length m2) ((S.s.j0 a).T.take j) wr /\ Fr (fun b => b = w.heap.size) w7 wr)) (fun iv _ => (S.s.j0 a).T.length - (intOf iv).toNat)
 case atStart => exact ⟨0, Nat.zero_le _, rfl, HN9.out.1, Fr.refl _ _⟩
 case round =>
  obtain ⟨j, hj, rfl, HR⟩ := hrel
  by_cases hlt : j < (S.s.j0 a).T.length
  ·obtain ⟨zb, zo, ez, lz, hc⟩ := row_ints HN9.out.2.2.2 (by omega)
   have hzb : w1.heap.size < zb /\ zb < w7.heap.size := by
    have := row_lt HN9.out.2.2.2 zb (by rw [ez]; rfl)
    omega
   have x1 : wr.cell? ⟨zb, zo + j, none⟩ = some (.int .i64 ((S.s.j0 a).T.getD j 0)) := (World.cell?_of_block (a := ⟨zb, zo + j, none⟩) (HR.out.2.block zb hzb.2 (fun e => by have := HR.out.1.mp1; have := HR.out.1.pp; omega))).trans (hc j hlt)
   have hm : (S.s.j0 a).T.getD j 0 ∈ (S.s.j0 a).T := by
    rw [List.getD_eq_getElem?_getD, List.getElem?_eq_getElem hlt]
    exact List.getElem_mem hlt
   have hx := HT.out.2.2.2 _ hm
   have HTS : Hid ((S.s.j0 a).T.take (j + 1) = (S.s.j0 a).T.take j ++ [(S.s.j0 a).T.getD j 0]) := take_snoc _ j hlt 0
   generalize (S.s.j0 a).T.getD j 0 = x at x1 hx HTS
   obtain ⟨D, o1, o2, o3⟩ := HR.out.1.mp
   obtain ⟨s0, s1, s2, s3, s4, s5⟩ := HR.out.1.cells
   have hky := keyI (a := x) hx.1 (by omega)
   have hv := elI (-1) (by decide)
   have ht : ((S.s.j0 a).T.take j).length = j := by rw [List.length_take]; omega
   have HO : Hid (wr.ownsMap Tryz.prog 3 (plainElem Tryz.prog 3) w.heap.size ((S.s.j0 a).T.take j).length D /\ (∀ a_1 : Int, Maps.has D (.int .i64 a_1) = ((S.s.j0 a).T.take j).contains a_1) /\ ∀ a_1 ∈ (S.s.j0 a).T.take j, D.atKey (.int .i64 a_1) (.lit (.int .i64 0)) = .lit (.int .i64 (-1))) := ⟨o1, o2, o3⟩
   have j0 : (0 : Int) <= (j : Int) := by omega
   have j1 : (j : Int) < ((S.s.j0 a).T.length : Int) := by omega
   clear o2 o3 hc lz hm s0 s1 s2 s4
   subst ez
   go_wp2_with (first
    | (at_mapUpdate; refine wpList_mapUpdate_own _ rfl _ _ _ 109 rfl 3 3 lawI Tryz.underlying109 (plainElem (H := Unit) Tryz.prog 3) w.heap.size ((S.s.j0 a).T.take j).length D rfl o1 (by unfold maxLen; omega) _ _ _ rfl rfl hky _ [] hv ?_; intro w8 hown8 hgrow8)
    | go_in)
   have HR2 : Hid (Nu a S w w1.heap.size w.heap.size ps b0 d0 b1 d1 (.slice y1 (S.s.j0 a).Y.length m1) (.slice y2 (S.s.j0 a).G.length m2) ((S.s.j0 a).T.take (j + 1)) w8 /\ Fr (fun b => b = w.heap.size) w7 w8) := by
    have f8 : Fr (fun b => b = w.heap.size) wr w8 := (Fr.refl _ wr).grown hgrow8 (fun b e => Or.inl (by cases e; rfl))
    have M8 := Mp.add (f := fun _ => -1) HO.out.1 HO.out.2.1 HO.out.2.2 rfl rfl hown8
    have N8 := HR.out.1.add f8 M8
    rw [<- HTS.out] at N8
    exact ⟨N8, HR.out.2.trans f8 (fun b e => Or.inl e)⟩
   clear HR HO hown8 hgrow8 o1 x1 s3 s5 hky hv
   go_roundw
   case rel => exact ⟨j + 1, by omega, by go_num, HR2⟩
   case measure => simp [intOf]; omega
  ·obtain rfl : j = (S.s.j0 a).T.length := by omega
   have HZ : Hid (∃ (F' : Nat -> Prop), (mkSd (mjI ⟨w1.heap.size, w.heap.size, ps, .slice y1 (S.s.j0 a).Y.length m1, .slice y2 (S.s.j0 a).G.length m2⟩ (S.s.j0 a)) ps (.slice b0 S.r.length d0)).J F' (js0, S.q) wr /\ wr.ownsRow 0 106 2 (.slice b0 S.r.length d0) S.r.length (ev S.r) /\ (∀ b, some b = (Value.slice b0 S.r.length d0).ownBlock -> ¬ F' b /\ w.heap.size <= b) /\ (∀ b, F' b -> FW b \/ w.heap.size <= b) /\ Below w.heap.size w wr) := by
    obtain ⟨R1, R2⟩ := HR.out
    rw [List.take_length] at R1
    have ne : ∀ b, w1.heap.size + 1 <= b -> ¬ b = w.heap.size := fun b hb e => by have := R1.mp1; have := R1.pp; omega
    obtain ⟨F', q1, q2, q3⟩ := R1.done HW.out.1 HJ.out (row_fr HN9.out.2.1 R2 (fun b e => ne b (row_lt HN9.out.2.1 b e).1)) (row_fr HN9.out.2.2.1 R2 (fun b e => ne b (row_lt HN9.out.2.2.1 b e).1)) (fun b e => HAP.out _ _ b e)
    exact ⟨F', q1, R1.sd.r0, q2, q3, R1.bl⟩
   clear HR HN9
   go_wp2_with fail
   go_ret
   obtain ⟨F', q1, q2, q3, q4, q5⟩ := HZ.out
   exact ⟨⟨w1.heap.size, w.heap.size, ps, .slice y1 (S.s.j0 a).Y.length m1, .slice y2 (S.s.j0 a).G.length m2⟩, b0, d0, F', rfl, q1, q2, q3, q4, q5⟩
end Go.Proofs.YtnalfnlmaallmaaGreat

namespace Go.Proofs.YtnalfnlmaallmaaGreat
open Go.RowKit W
section
variable {N O y g : Nat} {ws : List Int} {Y G : List Int}
theorem fcC_zero {x i : Int} (h : fcC N y g ws x i = 0) : tB N y g ws x = true /\ pk (ld N y g ws (aV x)) ≠ 5 /\ 0 <= i /\ i < stN N y g (aV x) (pf (ld N y g ws (aV x))) := by
 unfold fcC at h
 by_cases ht : tB N y g ws x = true
 ·rw [if_pos ht] at h
  by_cases h5 : pk (ld N y g ws (aV x)) = 5
  ·rw [if_pos h5] at h
   omega
  ·rw [if_neg h5] at h
   by_cases hi : i < 0 \/ stN N y g (aV x) (pf (ld N y g ws (aV x))) <= i
   ·rw [if_pos hi] at h
    omega
   ·exact ⟨ht, h5, by omega, by omega⟩
 ·rw [if_neg ht] at h
  omega
theorem tB_mem {x : Int} (h : Full2 N y g ws Y G) (hN : N <= 256) (hy : y <= N) (hO : O <= 1024) (hg : g <= O) (ht : tB N y g ws x = true) : aB x = true /\ (aV x ∈ Y \/ aV x ∈ G) := by
 obtain ⟨e1, e2⟩ := h.lists (O := O) hN hy hO hg
 unfold tB at ht
 rw [e1, e2] at ht
 simpa using ht
theorem stM_len (x i z c : Int) (M : List Int) : (stM N y g ws x i z c M).length <= M.length + 1 := by
 unfold stM
 split
 ·unfold mkM
  split
  ·exact len_addM _ _
  ·omega
 ·omega
end
end Go.Proofs.YtnalfnlmaallmaaGreat

namespace Go.Proofs.YtnalfnlmaallmaaGreat
open Go.RowKit W Apart2
structure WInv (N y g : Nat) (ws Y G rs : List Int) : Prop where
  full : Full2 N y g ws Y G
  rt : ∀ x ∈ rs, aB x = true -> aV x ∈ Y \/ aV x ∈ G
  fd : ∀ v, (v ∈ Y \/ v ∈ G) -> ∀ i, 0 <= i -> i < pf (ld N y g ws v) -> aB (ld N y g ws (v + 1 + i)) = true -> aV (ld N y g ws (v + 1 + i)) ∈ Y \/ aV (ld N y g ws (v + 1 + i)) ∈ G
section
variable {N O y g : Nat} {ws Y G rs : List Int}
theorem ew_at (n : Nat) (h : n < 1000000) : aB (ew 3 n) = true /\ aV (ew 3 n) = n := by
 have h0 := vc3_in (n : Int) (by omega) (by omega)
 have h1 := at_enc 3 n h0
 exact ⟨h1.1, h1.2 rfl⟩
theorem WInv.root (h : WInv N y g ws Y G rs) (k : Nat) (x : Int) (hx : aB x = true -> aV x ∈ Y \/ aV x ∈ G) : WInv N y g ws Y G (rs.set k x) :=
 ⟨h.full, fun z hz => by
  rcases List.mem_or_eq_of_mem_set hz with hz | hz
  ·exact h.rt z hz
  ·rw [hz]; exact hx, h.fd⟩
theorem WInv.at (h : WInv N y g ws Y G rs) (k : Nat) (hk : k < rs.length) (ha : aB (rs.getD k 0) = true) : aV (rs.getD k 0) ∈ Y \/ aV (rs.getD k 0) ∈ G :=
 h.rt _ (by rw [List.getD_eq_getElem?_getD, List.getElem?_eq_getElem hk]; exact List.getElem_mem hk) ha
theorem field_y (h : Full2 N y g ws Y G) {v i : Int} (hv : v ∈ Y) (i0 : 0 <= i) (i1 : i < pf (ld N y g ws v)) : 0 <= v + 1 + i /\ v + 1 + i < y := by
 have h1 := h.ty.mem v hv
 have h2 := h.iy v hv
 omega
theorem field_o (h : Full2 N y g ws Y G) {v i : Int} (hv : v ∈ G) (i0 : 0 <= i) (i1 : i < pf (ld N y g ws v)) : (N : Int) <= v + 1 + i /\ v + 1 + i < (N : Int) + g := by
 have h1 := h.to.mem v hv
 have h2 := h.io v hv
 omega
theorem field_i (h : Full2 N y g ws Y G) {v i : Int} (hv : v ∈ Y \/ v ∈ G) (i0 : 0 <= i) (i1 : i < pf (ld N y g ws v)) : iB N y g (v + 1 + i) = true := by
 rcases hv with hv | hv
 ·have := field_y h hv i0 i1
  exact iB_y this.1 this.2
 ·have := field_o h hv i0 i1
  exact iB_o this.1 this.2
theorem WInv.make (h : WInv N y g ws Y G rs) (hl : ws.length = N + O) {k f : Int} (hm : mkB N y k f = true) : WInv N (mkY N y k f) g (mkW N y k f ws) (Y ++ [(y : Int)]) G rs := by
 have hF := h.full.make hl hm
 obtain ⟨h1, h2⟩ := mkB_yes hm
 have hf := hc_bd k f h1
 have eY : mkY N y k f = y + 1 + f.toNat := by unfold mkY; rw [if_pos hm]
 have eW : mkW N y k f ws = fil ws y (hw k f) f.toNat := by unfold mkW; rw [if_pos hm]
 have hlt : y + f.toNat < ws.length := by omega
 rw [eY, eW] at hF ⊢
 have hh : ld N (y + 1 + f.toNat) g (fil ws y (hw k f) f.toNat) y = hw k f := ld_head _ _ hlt
 have hp := parts_head k f h1
 have mem : ∀ {z : Int}, (z ∈ Y \/ z ∈ G) -> (z ∈ Y ++ [(y : Int)] \/ z ∈ G) := fun hz => hz.imp (fun c => List.mem_append_left _ c) id
 refine ⟨hF, fun x hx ha => mem (h.rt x hx ha), fun v hv i i0 i1 ha => ?_⟩
 rcases hv with hv | hv
 ·rcases List.mem_append.1 hv with hv | hv
  ·have hi := h.full.iy v hv
   have e0 : ld N (y + 1 + f.toNat) g (fil ws y (hw k f) f.toNat) v = ld N y g ws v := by
    rw [ld_in (iB_y hi.1 (by omega)), ld_in (iB_y hi.1 hi.2), fil_get _ _ _ _ _ hlt, if_neg (by omega), if_neg (by omega)]
   rw [e0] at i1
   have hb := field_y h.full hv i0 i1
   have e1 : ld N (y + 1 + f.toNat) g (fil ws y (hw k f) f.toNat) (v + 1 + i) = ld N y g ws (v + 1 + i) := by
    rw [ld_in (iB_y hb.1 (by omega)), ld_in (iB_y hb.1 hb.2), fil_get _ _ _ _ _ hlt, if_neg (by omega), if_neg (by omega)]
   rw [e1] at ha ⊢
   exact mem (h.fd v (Or.inl hv) i i0 i1 ha)
  ·simp at hv
   subst hv
   rw [hh, hp.2.1] at i1
   have e1 : ld N (y + 1 + f.toNat) g (fil ws y (hw k f) f.toNat) ((y : Int) + 1 + i) = 2 := by
    rw [ld_in (iB_y (by omega) (by omega)), fil_get _ _ _ _ _ hlt, if_neg (by omega), if_pos (by omega)]
   rw [e1] at ha
   exact absurd ha (by decide)
 ·have hi := h.full.io v hv
  have e0 : ld N (y + 1 + f.toNat) g (fil ws y (hw k f) f.toNat) v = ld N y g ws v := by
   rw [ld_in (iB_o hi.1 hi.2), ld_in (iB_o hi.1 hi.2), fil_get _ _ _ _ _ hlt, if_neg (by omega), if_neg (by omega)]
  rw [e0] at i1
  have hb := field_o h.full hv i0 i1
  have e1 : ld N (y + 1 + f.toNat) g (fil ws y (hw k f) f.toNat) (v + 1 + i) = ld N y g ws (v + 1 + i) := by
   rw [ld_in (iB_o hb.1 hb.2), ld_in (iB_o hb.1 hb.2), fil_get _ _ _ _ _ hlt, if_neg (by omega), if_neg (by omega)]
  rw [e1] at ha ⊢
  exact mem (h.fd v (Or.inr hv) i i0 i1 ha)
theorem WInv.set (h : WInv N y g ws Y G rs) (hl : ws.length = N + O) (hy : y <= N) (hg : g <= O) {v i z : Int} (hv : v ∈ Y \/ v ∈ G) (i0 : 0 <= i) (i1 : i < pf (ld N y g ws v)) (hz : aB z = true -> aV z ∈ Y \/ aV z ∈ G) : WInv N y g (ws.set (v + 1 + i).toNat z) Y G rs := by
 obtain ⟨hF, hk⟩ := h.full.set (z := z) hl hy hg hv i0 i1
 have hb := iB_bd (O := O) (field_i h.full hv i0 i1) hy hg
 refine ⟨hF, h.rt, fun u hu j j0 j1 ha => ?_⟩
 rw [hk u hu] at j1
 have hi := field_i h.full hu j0 j1
 have hbi := iB_bd (O := O) hi hy hg
 have e1 : ld N y g (ws.set (v + 1 + i).toNat z) (u + 1 + j) = if (v + 1 + i).toNat = (u + 1 + j).toNat then z else ld N y g ws (u + 1 + j) := by
  rw [ld_in hi, ld_in hi, getD_set _ _ _ _ (by omega)]
 rw [e1] at ha ⊢
 split at ha
 ·rename_i e
  rw [if_pos e]
  exact hz ha
 ·rename_i e
  rw [if_neg e]
  exact h.fd u hu j j0 j1 ha
theorem WInv.tb (h : WInv N y g ws Y G rs) (hN : N <= 256) (hy : y <= N) (hO : O <= 1024) (hg : g <= O) (k : Nat) (hk : k < rs.length) : tB N y g ws (rs.getD k 0) = aB (rs.getD k 0) := by
 obtain ⟨e1, e2⟩ := h.full.lists (O := O) hN hy hO hg
 unfold tB
 rw [e1, e2]
 cases ha : aB (rs.getD k 0)
 ·rfl
 ·have := h.at k hk ha
  simpa using this
end
end Go.Proofs.YtnalfnlmaallmaaGreat
