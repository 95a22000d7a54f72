/- WoodDoes: a wood and the document's own answer beside it, in memory. -/
import Derived.Test.YtglddgjljohkiabWv2
import Derived.Test.YtglddgjljohkiabWl4
import Derived.Test.YtglddgjljohkiabJg
import Derived.Test.YtglddgjljohkiabCd2
import Derived.Test.YtglddgjljohkiabOpenW
namespace Go.Proofs.Ytglddgjljohkiab.WDo
open Go.RowKit W Kp Stl

/-- The document's arena, its roots, its list of dirty cards. -/
structure Rx (w : World) (rp rq rb B N O y g : Nat) (ws M rs : List Int) (vd : Value) : Prop where
  rm : Rm w rp rq N O y g ws
  rts : w.heap[rb]? = some (.cells (rs.map (Value.int .i64)).toArray 2 (0, 0))
  rl : rs.length = 12
  dr : w.ownsRow B 3 1 vd M.length (M.map (Value.int .i64))
  qb : rq ≠ rb

/-- Blocks of the wood, and of what stands beside it. -/
def Wb (pw p q pc pq sd nb k : Nat) : Prop := k = pw ∨ k = p ∨ k = q ∨ k = pc ∨ k = pq ∨ k = sd ∨ k = nb
def Rb (rp rq rb : Nat) (vd : Value) (k : Nat) : Prop := k = rp ∨ k = rq ∨ k = rb ∨ some k = vd.ownBlock

section
variable {w w' : World} {pw p q pc pq sd nb rp rq rb B N O y g y' g' : Nat} {ws M rs ws' M' rs' : List Int} {c : Int} {vd : Value}

theorem Rx.keep (h : Rx w rp rq rb B N O y g ws M rs vd) (hk : ∀ k, k < w.heap.size → Rb rp rq rb vd k → w'.heap[k]? = w.heap[k]?) : Rx w' rp rq rb B N O y g ws M rs vd :=
  ⟨h.rm.same (hk rp h.rm.ltp (Or.inl rfl)) (hk rq h.rm.ltq (Or.inr (Or.inl rfl))), (hk rb (lt_of_some h.rts) (Or.inr (Or.inr (Or.inl rfl)))).trans h.rts, h.rl, row_keep h.dr (fun k e => hk k (row_lt h.dr k e).2 (Or.inr (Or.inr (Or.inr e)))), h.qb⟩
theorem Rx.lt (h : Rx w rp rq rb B N O y g ws M rs vd) (k : Nat) (hk : Rb rp rq rb vd k) : k < w.heap.size := by
  rcases hk with rfl | rfl | rfl | e
  · exact h.rm.ltp
  · exact h.rm.ltq
  · exact lt_of_some h.rts
  · exact (row_lt h.dr k e).2
theorem wf_keep (h : Wf w pw p q pc pq sd nb N O y g ws c M rs) (hk : ∀ k, Wb pw p q pc pq sd nb k → w'.heap[k]? = w.heap[k]?) : Wf w' pw p q pc pq sd nb N O y g ws c M rs :=
  ⟨⟨(hk pw (Or.inl rfl)).trans h.wod.blk, h.wod.ar.same (hk p (Or.inr (Or.inl rfl))) (hk q (Or.inr (Or.inr (Or.inl rfl)))), h.wod.cd.same (hk pc (Or.inr (Or.inr (Or.inr (Or.inl rfl))))) (hk pq (Or.inr (Or.inr (Or.inr (Or.inr (Or.inl rfl))))))⟩, (hk sd (Or.inr (Or.inr (Or.inr (Or.inr (Or.inr (Or.inl rfl))))))).trans h.sid, (hk nb (Or.inr (Or.inr (Or.inr (Or.inr (Or.inr (Or.inr rfl))))))).trans h.rts, h.rl, h.nq⟩
theorem wf_lt (h : Wf w pw p q pc pq sd nb N O y g ws c M rs) (k : Nat) (hk : Wb pw p q pc pq sd nb k) : k < w.heap.size := by
  rcases hk with rfl | rfl | rfl | rfl | rfl | rfl | rfl
  · exact lt_of_some h.wod.blk
  · exact h.wod.ar.ltp
  · exact h.wod.ar.ltq
  · exact h.wod.cd.ltp
  · exact h.wod.cd.ltq
  · exact lt_of_some h.sid
  · exact lt_of_some h.rts
end

/-- Both, apart from each other and from all that was there. -/
structure Wx (w1 w : World) (pw p q pc pq sd nb rp rq rb N O y g : Nat) (ws M rs : List Int) (y' g' : Nat) (ws' M' rs' : List Int) (vd : Value) : Prop where
  wf : Wf w pw p q pc pq sd nb N O y g ws (nC O) M rs
  rx : Rx w rp rq rb w1.heap.size N O y' g' ws' M' rs' vd
  dj : ∀ k, Wb pw p q pc pq sd nb k → ¬ Rb rp rq rb vd k
  lo : ∀ k, Wb pw p q pc pq sd nb k ∨ Rb rp rq rb vd k → w1.heap.size ≤ k
  bel : Below w1.heap.size w1 w

section
variable {w1 w w' : World} {pw p q pc pq sd nb rp rq rb N O y g y' g' y2 g2 : Nat} {ws M rs ws' M' rs' ws2 M2 rs2 : List Int} {vd vd2 : Value}

theorem Wx.below (h : Wx w1 w pw p q pc pq sd nb rp rq rb N O y g ws M rs y' g' ws' M' rs' vd) (hb : Below w.heap.size w w') : Wx w1 w' pw p q pc pq sd nb rp rq rb N O y g ws M rs y' g' ws' M' rs' vd :=
  ⟨h.wf.below hb, h.rx.keep (fun k hk _ => hb.block k hk), h.dj, h.lo, h.bel.trans (hb.mono h.bel.size)⟩
/-- The wood turns. -/
theorem Wx.wood (h : Wx w1 w pw p q pc pq sd nb rp rq rb N O y g ws M rs y' g' ws' M' rs' vd) (hw : Wf w' pw p q pc pq sd nb N O y2 g2 ws2 (nC O) M2 rs2) {X : Nat → Prop} (f : Fr X w w') (hX : ∀ k, X k → Wb pw p q pc pq sd nb k) : Wx w1 w' pw p q pc pq sd nb rp rq rb N O y2 g2 ws2 M2 rs2 y' g' ws' M' rs' vd :=
  ⟨hw, h.rx.keep (fun k hk hr => f.block k hk (fun c => h.dj k (hX k c) hr)), h.dj, h.lo, h.bel.trans (f.below h.bel.size (fun k c => h.lo k (Or.inl (hX k c))))⟩
/-- What stands beside turns. -/
theorem Wx.room (h : Wx w1 w pw p q pc pq sd nb rp rq rb N O y g ws M rs y' g' ws' M' rs' vd) (hr : Rx w' rp rq rb w1.heap.size N O y2 g2 ws2 M2 rs2 vd2) {X : Nat → Prop} (f : Fr X w w') (hX : ∀ k, X k → Rb rp rq rb vd k) (hv : ∀ k, some k = vd2.ownBlock → some k = vd.ownBlock ∨ w.heap.size ≤ k) : Wx w1 w' pw p q pc pq sd nb rp rq rb N O y g ws M rs y2 g2 ws2 M2 rs2 vd2 := by
  refine ⟨wf_keep h.wf (fun k hk => f.block k (wf_lt h.wf k hk) (fun c => h.dj k hk (hX k c))), hr, fun k hk hb => ?_, fun k hk => ?_, h.bel.trans (f.below h.bel.size (fun k c => h.lo k (Or.inr (hX k c))))⟩
  · rcases hb with e | e | e | e
    · exact h.dj k hk (Or.inl e)
    · exact h.dj k hk (Or.inr (Or.inl e))
    · exact h.dj k hk (Or.inr (Or.inr (Or.inl e)))
    · rcases hv k e with e | e
      · exact h.dj k hk (Or.inr (Or.inr (Or.inr e)))
      · have := wf_lt h.wf k hk
        omega
  · rcases hk with hk | e | e | e | e
    · exact h.lo k (Or.inl hk)
    · exact h.lo k (Or.inr (Or.inl e))
    · exact h.lo k (Or.inr (Or.inr (Or.inl e)))
    · exact h.lo k (Or.inr (Or.inr (Or.inr (Or.inl e))))
    · exact (row_lt hr.dr k e).1
theorem Wx.roomSv (h : Wx w1 w pw p q pc pq sd nb rp rq rb N O y g ws M rs y' g' ws' M' rs' vd) (hr : Rm w' rp rq N O y2 g2 ws2) (s : Sv rp rq w w') : Wx w1 w' pw p q pc pq sd nb rp rq rb N O y g ws M rs y2 g2 ws2 M' rs' vd := by
  have nb1 : rb ≠ rp := fun e => by have h1 := h.rx.rts; rw [e, h.rx.rm.hp] at h1; simp at h1
  refine h.room (X := fun k => k = rp ∨ k = rq) ⟨hr, (s.block rb (lt_of_some h.rx.rts) nb1 (Ne.symm h.rx.qb)).trans h.rx.rts, h.rx.rl, row_keep h.rx.dr (fun k e => s.block k (row_lt h.rx.dr k e).2 (fun c => ?_) (fun c => ?_)), h.rx.qb⟩ ⟨s.os, s.tape, s.output, s.size, fun k hk hn => s.block k hk (fun e => hn (Or.inl e)) (fun e => hn (Or.inr e))⟩ (fun _ hk => hk.elim Or.inl (fun e => Or.inr (Or.inl e))) (fun k e => Or.inl e)
  · obtain ⟨cs, hc⟩ := row_type h.rx.dr k e
    rw [c, h.rx.rm.hp] at hc
    simp at hc
  · obtain ⟨cs, hc⟩ := row_type h.rx.dr k e
    rw [c, h.rx.rm.hq] at hc
    simp at hc
/-- A root of the wood is another one. -/
theorem Wx.rootW (h : Wx w1 w pw p q pc pq sd nb rp rq rb N O y g ws M rs y' g' ws' M' rs' vd) (i : Nat) (x : Int) : Wx w1 (w.setCell ⟨nb, i, none⟩ (.int .i64 x)) pw p q pc pq sd nb rp rq rb N O y g ws M (rs.set i x) y' g' ws' M' rs' vd :=
  h.wood (X := fun k => k = nb) (h.wf.root i x) ((Fr.refl _ w).set nb i _ rfl) (fun _ e => Or.inr (Or.inr (Or.inr (Or.inr (Or.inr (Or.inr e))))))
/-- A root beside is another one. -/
theorem Wx.rootR (h : Wx w1 w pw p q pc pq sd nb rp rq rb N O y g ws M rs y' g' ws' M' rs' vd) (i : Nat) (x : Int) : Wx w1 (w.setCell ⟨rb, i, none⟩ (.int .i64 x)) pw p q pc pq sd nb rp rq rb N O y g ws M rs y' g' ws' M' (rs'.set i x) vd := by
  have nb1 : rp ≠ rb := fun e => by have h1 := h.rx.rts; rw [← e, h.rx.rm.hp] at h1; simp at h1
  refine h.room (X := fun k => k = rb) ⟨h.rx.rm.same (Below.heap_setCell _ _ _ _ nb1) (Below.heap_setCell _ _ _ _ h.rx.qb), ?_, by rw [List.length_set]; exact h.rx.rl, row_keep h.rx.dr (fun k e => Below.heap_setCell _ _ _ _ (fun c => ?_)), h.rx.qb⟩ ((Fr.refl _ w).set rb i _ rfl) (fun k e => Or.inr (Or.inr (Or.inl e))) (fun k e => Or.inl e)
  · have hq := h.rx.rts
    simp only [World.setCell, Array.getElem?_modify, if_true, hq, Option.map_some]
    simp [List.map_set]
  · have c : k = rb := c
    obtain ⟨cs, hc⟩ := row_type h.rx.dr k e
    rw [c, h.rx.rts] at hc
    simp at hc
/-- A word beside is another one. -/
theorem Wx.wordR (h : Wx w1 w pw p q pc pq sd nb rp rq rb N O y g ws M rs y' g' ws' M' rs' vd) (i : Nat) (x : Int) : Wx w1 (w.setCell ⟨rq, i, none⟩ (.int .i64 x)) pw p q pc pq sd nb rp rq rb N O y g ws M rs y' g' (ws'.set i x) M' rs' vd :=
  h.roomSv (h.rx.rm.set i x) (Sv.setq i _)
/-- One more card beside. -/
theorem Wx.dirt (h : Wx w1 w pw p q pc pq sd nb rp rq rb N O y g ws M rs y' g' ws' M' rs' vd) (gr : w.grownBy w' vd.ownBlock) (hd : w'.ownsRow w1.heap.size 3 1 vd2 M2.length (M2.map (Value.int .i64))) (hv : ∀ k, some k = vd2.ownBlock → some k = vd.ownBlock ∨ w.heap.size ≤ k) : Wx w1 w' pw p q pc pq sd nb rp rq rb N O y g ws M rs y' g' ws' M2 rs' vd2 := by
  have ne : ∀ k, some k = vd.ownBlock → k ≠ rp ∧ k ≠ rq ∧ k ≠ rb := fun k e => by
    obtain ⟨cs, hc⟩ := row_type h.rx.dr k e
    refine ⟨fun c => ?_, fun c => ?_, fun c => ?_⟩
    · rw [c, h.rx.rm.hp] at hc; simp at hc
    · rw [c, h.rx.rm.hq] at hc; simp at hc
    · rw [c, h.rx.rts] at hc; simp at hc
  have bl : ∀ k, k < w.heap.size → some k ≠ vd.ownBlock → w'.heap[k]? = w.heap[k]? := fun k hk e => gr.block k hk e
  refine h.room (X := fun k => some k = vd.ownBlock) ⟨h.rx.rm.same (bl rp h.rx.rm.ltp (fun e => (ne rp e).1 rfl)) (bl rq h.rx.rm.ltq (fun e => (ne rq e).2.1 rfl)), (bl rb (lt_of_some h.rx.rts) (fun e => (ne rb e).2.2 rfl)).trans h.rx.rts, h.rx.rl, hd, h.rx.qb⟩ ((Fr.refl _ w).grown gr (fun k e => Or.inl e.symm)) (fun k e => Or.inr (Or.inr (Or.inr e))) hv
theorem Wx.cells (h : Wx w1 w pw p q pc pq sd nb rp rq rb N O y g ws M rs y' g' ws' M' rs' vd) : w.cell? ⟨pw, 0, none⟩ = some (.pointer (some ⟨p, 0, none⟩)) ∧ w.cell? ⟨pw, 1, none⟩ = some (.pointer (some ⟨pc, 0, none⟩)) ∧ w.cell? ⟨pw, 3, none⟩ = some (.slice (some ⟨nb, 0, none⟩) 12 12) ∧ w.cell? ⟨rp, 0, none⟩ = some (.slice (some ⟨rq, 0, none⟩) (N + O) (N + O)) :=
  ⟨h.wf.cells.1, h.wf.cells.2.1, h.wf.cells.2.2.1, h.rx.rm.cells.1⟩
theorem Wx.rcW (h : Wx w1 w pw p q pc pq sd nb rp rq rb N O y g ws M rs y' g' ws' M' rs' vd) (i : Nat) (hi : i < 12) : w.cell? ⟨nb, i, none⟩ = some (.int .i64 (rs.getD i 0)) ∧ w.frozen? ⟨nb, i, none⟩ = false := h.wf.rcell i hi
theorem Wx.rcR (h : Wx w1 w pw p q pc pq sd nb rp rq rb N O y g ws M rs y' g' ws' M' rs' vd) (i : Nat) (hi : i < 12) : w.cell? ⟨rb, i, none⟩ = some (.int .i64 (rs'.getD i 0)) ∧ w.frozen? ⟨rb, i, none⟩ = false := by
  have hl := h.rx.rl
  constructor
  · simp [World.cell?, h.rx.rts, List.getElem?_map, List.getElem?_eq_getElem (show i < rs'.length by omega), List.getD_eq_getElem?_getD]
  · simp [World.frozen?, h.rx.rts]
/-- A step that was boxed is none of these. -/
theorem Wx.box (h : Wx w1 w pw p q pc pq sd nb rp rq rb N O y g ws M rs y' g' ws' M' rs' vd) {xb : Nat} {d A F C X : Value} (hx : w.heap[xb]? = some (.cells #[d, A, F, C, X] 52 (0, 0))) : ¬ Wb pw p q pc pq sd nb xb ∧ ¬ Rb rp rq rb vd xb := by
  obtain ⟨D, ⟨es, clock, hb, _⟩, _⟩ := h.wf.wod.cd.hq
  constructor
  · rintro (e | e | e | e | e | e | e)
    · rw [e, h.wf.wod.blk] at hx; simp at hx
    · rw [e, h.wf.wod.ar.hp] at hx; simp at hx
    · rw [e, h.wf.wod.ar.hq] at hx; simp at hx
    · rw [e, h.wf.wod.cd.hp] at hx; simp at hx
    · rw [e, hb] at hx; simp at hx
    · rw [e, h.wf.sid] at hx; simp at hx
    · rw [e, h.wf.rts] at hx; simp at hx
  · rintro (e | e | e | e)
    · rw [e, h.rx.rm.hp] at hx; simp at hx
    · rw [e, h.rx.rm.hq] at hx; simp at hx
    · rw [e, h.rx.rts] at hx; simp at hx
    · obtain ⟨cs, hc⟩ := row_type h.rx.dr xb e
      rw [hc] at hx; simp at hx
end

end Go.Proofs.Ytglddgjljohkiab.WDo
