/- A wood with an empty Side and twelve roots; woodBegun: a contract. -/
import Derived.Test.YtglddgjljohkiabVw8
import Derived.Test.YtglddgjljohkiabJe
import Derived.Test.YtglddgjljohkiabJd
namespace Go.Proofs.Ytglddgjljohkiab
open Go.RowKit W Kp Stl

/-- A wood, its Side without entries, its roots. -/
structure Wf (w : World) (pw p q pc pq sd nb N O y g : Nat) (ws : List Int) (c : Int) (M rs : List Int) : Prop where
  wod : Wod w pw p q pc pq N O y g ws c M (.pointer (some ⟨sd, 0, none⟩)) (.slice (some ⟨nb, 0, none⟩) 12 12)
  sid : w.heap[sd]? = some (.cells #[.slice none 0 0, .slice none 0 0] 29 (0, 0))
  rts : w.heap[nb]? = some (.cells (rs.map (Value.int .i64)).toArray 2 (0, 0))
  rl : rs.length = 12
  nq : nb ≠ q

section
variable {w w' : World} {pw p q pc pq sd nb N O y g : Nat} {ws : List Int} {c : Int} {M rs : List Int}

theorem Wf.below (h : Wf w pw p q pc pq sd nb N O y g ws c M rs) (hb : Below w.heap.size w w') : Wf w' pw p q pc pq sd nb N O y g ws c M rs :=
  ⟨h.wod.below hb, (hb.block sd (lt_of_some h.sid)).trans h.sid, (hb.block nb (lt_of_some h.rts)).trans h.rts, h.rl, h.nq⟩
/-- Its blocks of the Side and of the roots are none of the others. -/
theorem Wf.apart (h : Wf w pw p q pc pq sd nb N O y g ws c M rs) : (sd ≠ p ∧ sd ≠ q ∧ sd ≠ pc ∧ sd ≠ pq) ∧ (nb ≠ p ∧ nb ≠ q ∧ nb ≠ pc ∧ nb ≠ pq) ∧ nb ≠ pw ∧ nb ≠ sd := by
  obtain ⟨D, ⟨es, clock, hb, _⟩, _⟩ := h.wod.cd.hq
  have h1 := h.wod.blk
  have h2 := h.wod.ar.hp
  have h3 := h.wod.ar.hq
  have h4 := h.wod.cd.hp
  have h5 := h.sid
  have h6 := h.rts
  refine ⟨⟨fun e => ?_, fun e => ?_, fun e => ?_, fun e => ?_⟩, ⟨fun e => ?_, h.nq, fun e => ?_, fun e => ?_⟩, fun e => ?_, fun e => ?_⟩
  · rw [e, h2] at h5; simp at h5
  · rw [e, h3] at h5; simp at h5
  · rw [e, h4] at h5; simp at h5
  · rw [e, hb] at h5; simp at h5
  · rw [e, h2] at h6; simp at h6
  · rw [e, h4] at h6; simp at h6
  · rw [e, hb] at h6; simp at h6
  · rw [e, h1] at h6; simp at h6
  · rw [e, h5] at h6; simp at h6
/-- The arena and the cards turn alone. -/
theorem Wf.turn (h : Wf w pw p q pc pq sd nb N O y g ws c M rs) {y' g' : Nat} {ws' M' : List Int} (hw : Wod w' pw p q pc pq N O y' g' ws' c M' (.pointer (some ⟨sd, 0, none⟩)) (.slice (some ⟨nb, 0, none⟩) 12 12)) (f : Fr (fun k => k = p ∨ k = q ∨ k = pc ∨ k = pq) w w') : Wf w' pw p q pc pq sd nb N O y' g' ws' c M' rs := by
  obtain ⟨⟨a1, a2, a3, a4⟩, ⟨b1, b2, b3, b4⟩, _⟩ := h.apart
  refine ⟨hw, (f.block sd (lt_of_some h.sid) ?_).trans h.sid, (f.block nb (lt_of_some h.rts) ?_).trans h.rts, h.rl, h.nq⟩
  · rintro (e | e | e | e)
    · exact a1 e
    · exact a2 e
    · exact a3 e
    · exact a4 e
  · rintro (e | e | e | e)
    · exact b1 e
    · exact b2 e
    · exact b3 e
    · exact b4 e
/-- The arena turns alone. -/
theorem Wf.arena (h : Wf w pw p q pc pq sd nb N O y g ws c M rs) {y' g' : Nat} {ws' : List Int} (ha : At w' p q N O y' g' ws') (s : Sv p q w w') : Wf w' pw p q pc pq sd nb N O y' g' ws' c M rs :=
  h.turn (h.wod.arena ha s) ⟨s.os, s.tape, s.output, s.size, fun k hk hn => s.block k hk (fun e => hn (Or.inl e)) (fun e => hn (Or.inr (Or.inl e)))⟩
/-- A root is another one. -/
theorem Wf.root (h : Wf w pw p q pc pq sd nb N O y g ws c M rs) (i : Nat) (x : Int) : Wf (w.setCell ⟨nb, i, none⟩ (.int .i64 x)) pw p q pc pq sd nb N O y g ws c M (rs.set i x) := by
  obtain ⟨_, ⟨b1, b2, b3, b4⟩, b5, b6⟩ := h.apart
  have k : ∀ j, j ≠ nb → (w.setCell ⟨nb, i, none⟩ (.int .i64 x)).heap[j]? = w.heap[j]? := fun j hj => Below.heap_setCell _ _ _ _ hj
  refine ⟨⟨(k pw (Ne.symm b5)).trans h.wod.blk, h.wod.ar.same (k p (Ne.symm b1)) (k q (Ne.symm b2)), h.wod.cd.same (k pc (Ne.symm b3)) (k pq (Ne.symm b4))⟩, (k sd (Ne.symm b6)).trans h.sid, ?_, by rw [List.length_set]; exact h.rl, h.nq⟩
  have hq := h.rts
  simp only [World.setCell, Array.getElem?_modify, if_true, hq, Option.map_some]
  simp [List.map_set]
theorem Wf.cells (h : Wf w pw p q pc pq sd nb N O y g ws c M rs) : w.cell? ⟨pw, 0, none⟩ = some (.pointer (some ⟨p, 0, none⟩)) ∧ w.cell? ⟨pw, 1, none⟩ = some (.pointer (some ⟨pc, 0, none⟩)) ∧ w.cell? ⟨pw, 3, none⟩ = some (.slice (some ⟨nb, 0, none⟩) 12 12) ∧ pw < w.heap.size ∧ nb < w.heap.size :=
  ⟨h.wod.cells.1, h.wod.cells.2.1, h.wod.cells.2.2.2.1, lt_of_some h.wod.blk, lt_of_some h.rts⟩
theorem Wf.rcell (h : Wf w pw p q pc pq sd nb N O y g ws c M rs) (i : Nat) (hi : i < 12) : w.cell? ⟨nb, i, none⟩ = some (.int .i64 (rs.getD i 0)) ∧ w.frozen? ⟨nb, i, none⟩ = false := by
  have hl := h.rl
  constructor
  · simp [World.cell?, h.rts, List.getElem?_map, List.getElem?_eq_getElem (show i < rs.length by omega), List.getD_eq_getElem?_getD]
  · simp [World.frozen?, h.rts]
theorem Wf.lq (h : Wf w pw p q pc pq sd nb N O y g ws c M rs) : Lq w (some ⟨nb, 0, none⟩) rs := by
  refine ⟨fun _ => ⟨nb, 0, rfl, lt_of_some h.rts, fun i hi => ?_⟩, fun _ => ⟨nb, 0, _, rfl, h.rts⟩⟩
  rw [Nat.zero_add]
  exact (h.rcell i (by rw [← h.rl]; exact hi)).1
theorem Wf.wq (h : Wf w pw p q pc pq sd nb N O y g ws c M rs) : Wq w pw p q N O y g ws sd (.slice none 0 0) none 0 [] :=
  ⟨h.wod.cells.1, h.wod.cells.2.2.1, h.wod.ar, h.sid, fun hp => by simp at hp, by simp⟩

theorem viewW_any (h : Wf w pw p q pc pq sd nb N O y g ws c M rs) :
    Calls Try.prog 35 #[.pointer (some ⟨pw, 0, none⟩)] w fun e w' => ∃ r2 d2 na nn nc, e = .returned (.agg #[.slice r2 12 d2, .slice na nn nc]) ∧ Lp w' r2 (vwL N y g ws [] rs).1 ∧ Ln w' na (vwL N y g ws [] rs).2.2 ∧ nn = (vwL N y g ws [] rs).2.2.length ∧ Below w.heap.size w w' := by
  have P := view_any (l := rs) (ra := some ⟨nb, 0, none⟩) (rc := 12) h.wq (by rw [h.rl]; exact h.cells.2.2.1) h.lq (by rw [h.rl]; omega)
  rw [h.rl] at P
  exact P
end

def W0b : List Int := fil (List.replicate 24 0) 0 (hw 1 2) 2
def W1b : List Int := stW 16 3 0 W0b (ew 3 0) 1 20
def R0b : List Int := (tw 2 12).set 0 (ew 3 0)
theorem b1 : fcC 16 3 0 W0b (ew 3 0) 1 = 0 := by decide +kernel
theorem b2 : stM 16 3 0 W0b (ew 3 0) 1 20 (nC 8) [] = [] := by decide +kernel
theorem b3 : fcC 16 3 0 W1b (ew 3 0) 1 = 0 := by decide +kernel
theorem b4 : ld 16 3 0 W1b (aV (ew 3 0) + 1 + 1) = 20 := by decide +kernel
theorem b5 : (vwL 16 3 0 W1b [] R0b).1 = [(3, 0), (0, 0), (0, 0), (0, 0), (0, 0), (0, 0), (0, 0), (0, 0), (0, 0), (0, 0), (0, 0), (0, 0)] := by decide +kernel
theorem b6 : (vwL 16 3 0 W1b [] R0b).2.2 = [(1, [(0, 0), (1, 5)])] := by decide +kernel

end Go.Proofs.Ytglddgjljohkiab
