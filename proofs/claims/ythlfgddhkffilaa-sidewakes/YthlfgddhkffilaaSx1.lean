/- What waits is woken: lists alone; Wake over a set of words is the document's answer. -/
import Derived.Test.YthlfgddhkffilaaSdf
import Derived.Test.YthlfgddhkffilaaSw1
namespace Go.Proofs.Ythlfgddhkffilaa
open Go.RowKit W Kp Stl

/-- One more that waits: who is alive, what is wanted, has one been woken. -/
def wst (L : Pairs) (s : List Int × List En × Bool) (e : En) : List Int × List En × Bool :=
  if s.1.contains e.1 && decide (e.2 < 1000) && !s.1.contains e.2 then (dfs L (L.length + 1) s.1 e.2, s.2.1 ++ [(e.1, w1k e.2)], true) else (s.1, s.2.1 ++ [e], s.2.2)
def wgo (L : Pairs) (A : List Int) (l : List En) : List Int × List En × Bool := l.foldl (wst L) (A, [], false)
theorem wgo_nil (L : Pairs) (A : List Int) : wgo L A [] = (A, [], false) := rfl
theorem wgo_snoc (L : Pairs) (A : List Int) (l : List En) (e : En) : wgo L A (l ++ [e]) = wst L (wgo L A l) e := by simp [wgo, List.foldl_append]
theorem wst_len (L : Pairs) (s : List Int × List En × Bool) (e : En) : (wst L s e).2.1.length = s.2.1.length + 1 := by
  unfold wst
  split <;> simp
theorem wgo_take (L : Pairs) (A : List Int) (l : List En) (j : Nat) (h : j < l.length) : wgo L A (l.take (j + 1)) = wst L (wgo L A (l.take j)) (l.getD j (0, 0)) := by rw [take_snoc l j h (0, 0), wgo_snoc]
theorem wgo_len (L : Pairs) (A : List Int) (l : List En) : ∀ j, j ≤ l.length → (wgo L A (l.take j)).2.1.length = j
  | 0, _ => by simp [wgo]
  | j + 1, h => by rw [wgo_take L A l j (by omega), wst_len, wgo_len L A l j (by omega)]

section
variable {c bw p : Nat} {L : Pairs} {E : List Int} {vr : Value}

/-- The looks of SideWakes. -/
abbrev xIs (s : List Int × List En) (x : Int) : Bool := isW s.1 x
abbrev xKp (L : Pairs) (s : List Int × List En) (x : Int) : Int × (List Int × List En) := (w1k x, (dfs L (L.length + 1) s.1 x, s.2))

theorem wkF_wgo {A : List Int} {q : List En} (hq : ∀ e ∈ q, e.1 ≤ 999) : ∀ n, n ≤ q.length → wkF (mkSd (wdOb c bw L E) p vr) xIs (xKp L) (A, q) n = (((wgo L A (q.take n)).1, (wgo L A (q.take n)).2.1 ++ q.drop n), (wgo L A (q.take n)).2.2)
  | 0, _ => by rw [wkF_zero]; simp [wgo]; rfl
  | n + 1, h => by
    have ih := wkF_wgo (A := A) hq n (by omega)
    have hl := wgo_len L A q n (by omega)
    have ht := wgo_take L A q n (by omega)
    have hd : q.drop n = q.getD n (0, 0) :: q.drop (n + 1) := by
      rw [List.drop_eq_getElem_cons (by omega : n < q.length)]
      simp [List.getElem?_eq_getElem (by omega : n < q.length)]
    have hm : q.getD n (0, 0) ∈ q := by rw [List.getD_eq_getElem?_getD, List.getElem?_eq_getElem (by omega : n < q.length)]; exact List.getElem_mem _
    have h9 := hq _ hm
    rw [wkF_succ, ih, ht]
    generalize wgo L A (q.take n) = s at hl
    obtain ⟨B, O, b⟩ := s
    simp only at hl
    have hg : ((O ++ q.drop n).getD n (0, 0)) = q.getD n (0, 0) := by
      rw [hd]
      simp [← hl]
    generalize q.getD n (0, 0) = e at *
    obtain ⟨x, y⟩ := e
    have hx : isW B x = B.contains x := isW_in h9
    unfold wst
    cases hc : (B.contains x && decide (y < 1000) && !B.contains y)
    · have hw : isW B y = true ∨ isW B x = false := by
        rw [hx]
        unfold isW
        by_cases h1 : y < 1000
        · rw [decide_eq_true h1] at hc
          rw [decide_eq_false (by omega : ¬ 1000 ≤ y), Bool.false_or]
          cases h2 : B.contains x
          · exact Or.inr rfl
          · rw [h2] at hc
            simp at hc
            exact Or.inl (by simpa using hc)
        · rw [decide_eq_true (by omega : 1000 ≤ y)]
          exact Or.inl rfl
      rw [wks_stay (o := mkSd (wdOb c bw L E) p vr) (t := ((B, O ++ q.drop n), b)) (g := x) (z := y) (by show ((O ++ q.drop n).getD n (0, 0)).1 = x; rw [hg]) (by show ((O ++ q.drop n).getD n (0, 0)).2 = y; rw [hg]) hw]
      rw [if_neg (by simp), hd]
      simp
    · simp only [Bool.and_eq_true, decide_eq_true_eq] at hc
      obtain ⟨⟨c1, c2⟩, c3⟩ := hc
      have w1 : isW B y = false := by
        unfold isW
        rw [decide_eq_false (by omega : ¬ 1000 ≤ y), Bool.false_or]
        simpa using c3
      rw [wks_come (o := mkSd (wdOb c bw L E) p vr) (t := ((B, O ++ q.drop n), b)) (g := x) (z := y) (by show ((O ++ q.drop n).getD n (0, 0)).1 = x; rw [hg]) (by show ((O ++ q.drop n).getD n (0, 0)).2 = y; rw [hg]) w1 (by show isW B x = true; rw [hx]; exact c1)]
      rw [if_pos rfl]
      show (((dfs L (L.length + 1) B y, (O ++ q.drop n).set n (x, w1k y)) : List Int × List En), true) = _
      rw [hd, List.set_append_right _ _ (by omega), hl]
      simp
theorem wkF_all {A : List Int} {q : List En} (hq : ∀ e ∈ q, e.1 ≤ 999) : wkF (mkSd (wdOb c bw L E) p vr) xIs (xKp L) (A, q) q.length = (((wgo L A q).1, (wgo L A q).2.1), (wgo L A q).2.2) := by
  have h := wkF_wgo (c := c) (bw := bw) (p := p) (L := L) (E := E) (vr := vr) (A := A) hq q.length (Nat.le_refl _)
  rw [List.take_length, List.drop_length, List.append_nil] at h
  exact h
end

/-- Each is one of those that came in, or that one kept. -/
def Of0 (q0 q : List En) : Prop := ∀ e ∈ q, ∃ e0 ∈ q0, e.1 = e0.1 ∧ (e.2 = e0.2 ∨ e.2 = w1k e0.2)
/-- How many are not kept. -/
def und (q : List En) : Nat := (q.filter (fun e => decide (e.2 < 1000))).length

theorem und_append (a b : List En) : und (a ++ b) = und a + und b := by simp [und]
theorem und_le (q : List En) : und q ≤ q.length := List.length_filter_le _ _

/-- What is so behind the first j. -/
structure Wok (L : Pairs) (q0 : List En) (l : List En) (s : List Int × List En × Bool) : Prop where
  of : Of0 q0 s.2.1
  und : und s.2.1 + (if s.2.2 then 1 else 0) ≤ und l

theorem wok_step {L : Pairs} {q0 l : List En} {s : List Int × List En × Bool} {e : En} (h0 : Smw q0) (he : ∃ e0 ∈ q0, e.1 = e0.1 ∧ (e.2 = e0.2 ∨ e.2 = w1k e0.2)) (h : Wok L q0 l s) : Wok L q0 (l ++ [e]) (wst L s e) := by
  obtain ⟨e0, hm, h1, h2⟩ := he
  have hs := h0 e0 hm
  have hk := w1k_in hs.2.2.1 hs.2.2.2
  unfold wst
  cases hc : (s.1.contains e.1 && decide (e.2 < 1000) && !s.1.contains e.2)
  · rw [if_neg (by simp)]
    refine ⟨fun x hx => ?_, ?_⟩
    · rcases List.mem_append.1 hx with hx | hx
      · exact h.of x hx
      · rw [List.mem_singleton] at hx
        rw [hx]
        exact ⟨e0, hm, h1, h2⟩
    · have h3 := h.und
      rw [und_append, und_append]
      show und s.2.1 + und [e] + (if s.2.2 then 1 else 0) ≤ _
      omega
  · simp only [Bool.and_eq_true, decide_eq_true_eq] at hc
    obtain ⟨⟨_, c2⟩, _⟩ := hc
    have e2 : e.2 = e0.2 := h2.resolve_right (fun h => by omega)
    rw [if_pos rfl]
    refine ⟨fun x hx => ?_, ?_⟩
    · rcases List.mem_append.1 hx with hx | hx
      · exact h.of x hx
      · rw [List.mem_singleton] at hx
        rw [hx]
        exact ⟨e0, hm, h1, Or.inr (by show w1k e.2 = _; rw [e2])⟩
    · have h3 := h.und
      have u1 : und [(e.1, w1k e.2)] = 0 := by
        have : ¬ (w1k e.2 < 1000) := by rw [e2]; omega
        simp only [und, List.filter_cons, decide_eq_false this]
        rfl
      have u2 : und [e] = 1 := by
        simp only [und, List.filter_cons, decide_eq_true c2]
        rfl
      rw [und_append, und_append, u1, u2]
      show und s.2.1 + 0 + (if true then 1 else 0) ≤ _
      split at h3 <;> simp <;> omega
theorem wok_all {L : Pairs} {q0 l : List En} (A : List Int) (h0 : Smw q0) (hl : Of0 q0 l) : ∀ j, j ≤ l.length → Wok L q0 (l.take j) (wgo L A (l.take j))
  | 0, _ => ⟨fun x hx => by simp [wgo] at hx, by simp [wgo, und]⟩
  | j + 1, h => by
    rw [wgo_take L A l j (by omega), take_snoc l j (by omega) (0, 0)]
    refine wok_step h0 (hl _ ?_) (wok_all A h0 hl j (by omega))
    rw [List.getD_eq_getElem?_getD, List.getElem?_eq_getElem (by omega : j < l.length)]
    exact List.getElem_mem _
theorem Of0.refl (q : List En) : Of0 q q := fun e he => ⟨e, he, rfl, Or.inl rfl⟩
theorem Of0.small {q0 q : List En} (h0 : Smw q0) (h : Of0 q0 q) : ∀ e ∈ q, 0 ≤ e.1 ∧ e.1 ≤ 999 ∧ 0 ≤ e.2 ∧ e.2 ≤ 1999 := fun e he => by
  obtain ⟨e0, hm, h1, h2⟩ := h e he
  have hs := h0 e0 hm
  have hk := w1k_in hs.2.2.1 hs.2.2.2
  rcases h2 with h2 | h2 <;> refine ⟨by omega, by omega, by omega, by omega⟩

/-- The words that are asked. -/
def wordsX (q : List En) : List Int := q.flatMap fun e => [e.1, e.2, w1k e.2]
theorem wordsX_len (q : List En) : (wordsX q).length = 3 * q.length := by
  unfold wordsX
  induction q with
  | nil => rfl
  | cons e l ih =>
    rw [List.flatMap_cons, List.length_append, ih]
    simp
    omega
theorem wordsX_mem {q0 q : List En} (h : Of0 q0 q) {e : En} (he : e ∈ q) : e.1 ∈ wordsX q0 ∧ e.2 ∈ wordsX q0 := by
  obtain ⟨e0, hm, h1, h2⟩ := h e he
  unfold wordsX
  simp only [List.mem_flatMap]
  refine ⟨⟨e0, hm, by rw [h1]; simp⟩, ⟨e0, hm, ?_⟩⟩
  rcases h2 with h2 | h2 <;> rw [h2] <;> simp

/-- What the set has stays within its bound. -/
theorem wgo_bound {L : Pairs} {q0 l : List En} (A : List Int) (hl : Of0 q0 l) {b : Nat} (h : A.length + mu L A + out (wordsX q0) A ≤ b) : ∀ j, j ≤ l.length → (wgo L A (l.take j)).1.length + mu L (wgo L A (l.take j)).1 + out (wordsX q0) (wgo L A (l.take j)).1 ≤ b
  | 0, _ => by simpa [wgo] using h
  | j + 1, hj => by
    have ih := wgo_bound A hl h j (by omega)
    have hm : l.getD j (0, 0) ∈ l := by
      rw [List.getD_eq_getElem?_getD, List.getElem?_eq_getElem (by omega : j < l.length)]
      exact List.getElem_mem _
    rw [wgo_take L A l j (by omega)]
    unfold wst
    split
    · have m1 := mu_len L (wgo L A (l.take j)).1
      exact keep_bound (wordsX_mem hl hm).2 (by omega) ih
    · exact ih

end Go.Proofs.Ythlfgddhkffilaa
