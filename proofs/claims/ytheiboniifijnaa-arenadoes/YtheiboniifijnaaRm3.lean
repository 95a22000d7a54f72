/- What the document's own arena leaves where a thing is copied in it: a contract, over the seat's own translation; no block but the room's turns. -/
import Derived.Test.YtheiboniifijnaaRm2
import Derived.Test.YtheiboniifijnaaApart2
namespace Go.Proofs.Ytheiboniifijnaa
open Go.RowKit W

/-- The words with so many of them set, one by one, to others of the words as they were. -/
def cpy (ws : List Int) (t a : Nat) : Nat → List Int
  | 0 => ws
  | k + 1 => (cpy ws t a k).set (t + k) (ws.getD (a + k) 0)
theorem length_cpy (ws : List Int) (t a k : Nat) : (cpy ws t a k).length = ws.length := by
  induction k with
  | zero => rfl
  | succ k ih => simp [cpy, ih]
theorem cpy_get (ws : List Int) (t a k i : Nat) (h : t + k ≤ ws.length) : (cpy ws t a k).getD i 0 = if t ≤ i ∧ i < t + k then ws.getD (a + i - t) 0 else ws.getD i 0 := by
  induction k with
  | zero => rw [cpy, if_neg (by omega)]
  | succ k ih =>
    rw [cpy, getD_set _ _ _ _ (by rw [length_cpy]; omega), ih (by omega)]
    by_cases e : t + k = i
    · rw [if_pos e, if_pos (by omega), show a + k = a + i - t by omega]
    · rw [if_neg e]
      by_cases e2 : t ≤ i ∧ i < t + k
      · rw [if_pos e2, if_pos (by omega)]
      · rw [if_neg e2, if_neg (by omega)]
theorem ext_getD (l m : List Int) (hl : l.length = m.length) (h : ∀ i, l.getD i 0 = m.getD i 0) : l = m := by
  apply List.ext_getElem hl
  intro i h1 h2
  have := h i
  simpa [List.getD_eq_getElem?_getD, List.getElem?_eq_getElem h1, List.getElem?_eq_getElem h2] using this
theorem cpy_all (ws : List Int) (t a n : Nat) (h1 : t + n ≤ ws.length) (h2 : a + n ≤ ws.length) : cpy ws t a n = splice ws t ((ws.drop a).take n) := by
  have hl : ((ws.drop a).take n).length = n := by simp; omega
  apply ext_getD
  · rw [length_cpy, length_splice _ _ _ (by omega)]
  · intro i
    rw [cpy_get _ _ _ _ _ h1, Apart2.splice_get _ _ _ _ _ h1 h2]

/-- A place that is in use, and one of the same space that is as far behind it as one may be. -/
theorem in_young {N y g : Nat} {a : Int} (h : hB 0 y a = true) (hy : y ≤ N) : hB N g a = false ∧ en N y g a = y := by
  have := hB_yes h
  refine ⟨by simp [hB]; omega, by unfold en; rw [if_pos h]⟩
theorem in_old {N y g : Nat} {a : Int} (h : hB N g a = true) (hy : y ≤ N) : hB 0 y a = false ∧ en N y g a = (N : Int) + g := by
  have := hB_yes h
  have e : hB 0 y a = false := by simp [hB]; omega
  refine ⟨e, by unfold en; rw [if_neg (by simp [e])]⟩

set_option maxRecDepth 100000 in
set_option maxHeartbeats 1000000 in
theorem rCopy_no1 {p q N O y g : Nat} {ws : List Int} (a : Int) (w : World) (h : Rm w p q N O y g ws) (hm : a ≤ 9223372036854775807) (hp : pc (ld N y g ws a) ≠ 0) :
    Calls Try.prog 34 #[.pointer (some ⟨p, 0, none⟩), .int .i64 a] w fun e w' => e = .returned (.int .i64 (-1)) ∧ Below w.heap.size w w' := by
  have t : (pc (ld N y g ws a) != 0) = true := by simpa using hp
  clear hp
  have k1 := h.hN'
  have k2 := h.hg
  have k3 := h.hO
  go_enter Try.func34, Try.ntmps34
  go_wp2_with fail
  refine (rThing_any a _ h hm).mono ?_
  rintro e w1 ⟨rfl, hb1⟩
  obtain ⟨c0, c1, c2, c3⟩ := (h.below hb1 (Nat.le_refl _)).cells
  go_wp2_with fail
  go_quiet (fail)
  go_wp2_with fail
  go_ret
  exact ⟨rfl, below_drewN hb1 _⟩

set_option maxRecDepth 100000 in
set_option maxHeartbeats 1000000 in
theorem rCopy_no2 {p q N O y g : Nat} {ws : List Int} (a : Int) (w : World) (h : Rm w p q N O y g ws) (hm : a ≤ 9223372036854775807) (hp : pc (ld N y g ws a) = 0) (hr : (O : Int) - g < 1 + pf (ld N y g ws a)) :
    Calls Try.prog 34 #[.pointer (some ⟨p, 0, none⟩), .int .i64 a] w fun e w' => e = .returned (.int .i64 (-1)) ∧ Below w.heap.size w w' := by
  obtain ⟨f0, f1⟩ := pc_bd _ hp
  have HP : Hid (pc (ld N y g ws a) = 0) := hp
  clear hp
  have k1 := h.hN'
  have k2 := h.hg
  have k3 := h.hO
  go_enter Try.func34, Try.ntmps34
  go_wp2_with fail
  refine (rThing_any a _ h hm).mono ?_
  rintro e w1 ⟨rfl, hb1⟩
  rw [HP.out]
  obtain ⟨c0, c1, c2, c3⟩ := (h.below hb1 (Nat.le_refl _)).cells
  have h1 := (h.below hb1 (Nat.le_refl _))
  go_wp2_with fail
  go_quiet (fail)
  go_wp2_with fail
  go_ret
  exact ⟨rfl, below_drewN hb1 _⟩

end Go.Proofs.Ytheiboniifijnaa
