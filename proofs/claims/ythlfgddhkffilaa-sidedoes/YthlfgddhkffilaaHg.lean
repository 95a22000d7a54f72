/- In a region that draws its order: an operation that reads may be taken first where what it reads stands till the region's stores, and these wait for it. -/
import Derived.OrdersHeld
namespace Go.Proofs.Ythlfgddhkffilaa
open Go

section
variable {P : Program} {ops : Array Oper} {Q : Exit → Act → World → Prop} {md : Region.Mode} {T S : World → Prop} {St : List Nat}

/-- Has a store come up? -/
def came (St : List Nat) (listed : Array Bool) : Prop := ∃ s ∈ St, listed.getD s false = true

/-- Whatever order is picked from here on; T holds behind every operation, and till a store comes up S, too. -/
def anyG (P : Program) (md : Region.Mode) (ops : Array Oper) (Q : Exit → Act → World → Prop) (T S : World → Prop) (St : List Nat) : Nat → Array Bool → Act → World → Prop
  | 0, listed, a, w => Region.ready md ops listed = [] ∧ Q .normal a w
  | fuel + 1, listed, a, w => (Region.ready md ops listed = [] → Q .normal a w) ∧
    ∀ i ∈ Region.ready md ops listed, wpOp P ops Q i (fun a' w' => (T w' ∧ (came St (listed.setIfInBounds i true) ∨ S w')) ∧ anyG P md ops Q T S St fuel (listed.setIfInBounds i true) a' w') a w

theorem any_of_G : ∀ (fuel : Nat) (listed : Array Bool) (a : Act) (w : World), anyG P md ops Q T S St fuel listed a w → wpAny P md ops Q fuel listed a w
  | 0, _, _, _, h => h
  | fuel + 1, _, _, _, h => ⟨h.1, fun i hi => wpOp_mono (fun a' w' h' => any_of_G fuel _ a' w' h'.2) (h.2 i hi)⟩

/-- Does each of these stores wait for number i? -/
def waits (md : Region.Mode) (ops : Array Oper) (St : List Nat) (i : Nat) : Bool :=
  St.all fun s => match ops[s]? with
    | some o => o.after.any fun e => Region.binds md e && e.on == i
    | none => false

theorem no_store {i j : Nat} {listed : Array Bool} (hw : waits md ops St i = true) (hi : i ∈ Region.ready md ops listed) (hj : j ∈ Region.ready md ops listed) : j ∉ St := by
  intro hs
  have h1 := List.all_eq_true.1 hw j hs
  obtain ⟨h0, o, ho, hall⟩ := mem_ready.1 hj
  rw [ho] at h1
  obtain ⟨e, he, hb⟩ := Array.any_eq_true'.1 h1
  rw [Bool.and_eq_true, beq_iff_eq] at hb
  have h2 := hall e he hb.1
  rw [hb.2] at h2
  have h3 := (mem_ready.1 hi).1
  rcases Nat.lt_or_ge i listed.size with h' | h'
  · simp [h'] at h2 h3
    rw [h3] at h2
    cases h2
  · simp [Array.getElem?_eq_none h'] at h2

theorem came_set {i : Nat} {listed : Array Bool} (hn : ¬ came St listed) (hi : i ∉ St) : ¬ came St (listed.setIfInBounds i true) := by
  rintro ⟨s, hs, h⟩
  have hne : i ≠ s := fun e => hi (by rw [e]; exact hs)
  exact hn ⟨s, hs, by rw [getD_set_ne false hne] at h; exact h⟩

theorem G_first {i : Nat} {oi : Oper} {v : Value} (hi : ops[i]? = some oi) (hiS : i ∉ St) (hwt : waits md ops St i = true) (hsel : ∀ (j : Nat) (o : Oper) cs b, ops[j]? = some o → o.op ≠ .select cs b)
    (hQ : ∀ c a w, Q (.panic c) (a.put oi.dst v) w → Q (.panic c) a w) :
    ∀ (fuel : Nat) (listed : Array Bool) (a : Act) (w : World),
      (∀ j oj, ops[j]? = some oj → j ≠ i → listed.getD j true = false → (∀ e ∈ oj.after, Region.binds md e = true → e.on ≠ i) → oi.apart ops oj = true) →
      i ∈ Region.ready md ops listed → ¬ came St listed → YieldsIf P ops (fun w => T w ∧ S w) oi v a → T w ∧ S w →
      anyG P md ops Q T S St fuel (listed.setIfInBounds i true) (a.put oi.dst v) w → anyG P md ops Q T S St (fuel + 1) listed a w := by
  intro fuel
  induction fuel with
  | zero =>
    intro listed a w _ hr _ hy hS H
    refine ⟨fun h => absurd hr (by rw [h]; simp), fun j hj => ?_⟩
    by_cases hji : j = i
    · rw [hji]
      exact hy.wpOp hi hS ⟨⟨hS.1, Or.inr hS.2⟩, H⟩
    · have hm := ready_mono hj hji
      rw [H.1] at hm
      simp at hm
  | succ fuel ih =>
    intro listed a w hfree hr hnc hy hS H
    refine ⟨fun h => absurd hr (by rw [h]; simp), fun j hj => ?_⟩
    by_cases hji : j = i
    · rw [hji]
      exact hy.wpOp hi hS ⟨⟨hS.1, Or.inr hS.2⟩, H⟩
    · have hjS := no_store hwt hr hj
      have hstep := H.2 j (ready_mono hj hji)
      obtain ⟨hjun, oj, hoj, hall⟩ := mem_ready.1 hj
      have hapart : oi.apart ops oj = true := hfree j oj hoj hji hjun (fun e he hb heq => by
        have h2 := hall e he hb
        rw [heq] at h2
        have h3 := (mem_ready.1 hr).1
        rcases Nat.lt_or_ge i listed.size with h' | h'
        · simp [h'] at h2 h3
          rw [h3] at h2
          cases h2
        · simp [Array.getElem?_eq_none h'] at h2)
      refine wpOp_mono (fun a' w' h => ?_) (wpOp_putIf hoj hapart (fun cs b => hsel i oi cs b hi) (fun cs b => hsel j oj cs b hoj) hQ hy hstep)
      obtain ⟨hy', hSw, hG⟩ := h
      have hnc' := came_set hnc hjS
      have hSw' : T w' ∧ S w' := ⟨hSw.1, hSw.2.resolve_left (came_set (came_set hnc hiS) hjS)⟩
      refine ⟨⟨hSw'.1, Or.inr hSw'.2⟩, ih (listed.setIfInBounds j true) a' w' (fun k ok hk hki hun hno => hfree k ok hk hki ?_ hno) (ready_mono hr (Ne.symm hji)) hnc' hy' hSw' ?_⟩
      · by_cases hjk : j = k
        · rw [← hjk]; exact hjun
        · rwa [getD_set_ne true hjk] at hun
      · rwa [Array.setIfInBounds_comm _ _ hji]

/-- What reads that alone which always stands: whether a store has come up or not. -/
theorem G_always {i : Nat} {oi : Oper} {v : Value} (hi : ops[i]? = some oi) (hiS : i ∉ St) (hsel : ∀ (j : Nat) (o : Oper) cs b, ops[j]? = some o → o.op ≠ .select cs b)
    (hQ : ∀ c a w, Q (.panic c) (a.put oi.dst v) w → Q (.panic c) a w) :
    ∀ (fuel : Nat) (listed : Array Bool) (a : Act) (w : World),
      (∀ j oj, ops[j]? = some oj → j ≠ i → listed.getD j true = false → (∀ e ∈ oj.after, Region.binds md e = true → e.on ≠ i) → oi.apart ops oj = true) →
      i ∈ Region.ready md ops listed → YieldsIf P ops T oi v a → T w → (came St listed ∨ S w) →
      anyG P md ops Q T S St fuel (listed.setIfInBounds i true) (a.put oi.dst v) w → anyG P md ops Q T S St (fuel + 1) listed a w := by
  have up : ∀ {listed : Array Bool} {k : Nat}, came St listed → came St (listed.setIfInBounds k true) := fun ⟨s, hs, h⟩ => ⟨s, hs, getD_set_true h⟩
  intro fuel
  induction fuel with
  | zero =>
    intro listed a w _ hr hy hT hc H
    refine ⟨fun h => absurd hr (by rw [h]; simp), fun j hj => ?_⟩
    by_cases hji : j = i
    · rw [hji]
      exact hy.wpOp hi hT ⟨⟨hT, hc.imp up id⟩, H⟩
    · have hm := ready_mono hj hji
      rw [H.1] at hm
      simp at hm
  | succ fuel ih =>
    intro listed a w hfree hr hy hT hc H
    refine ⟨fun h => absurd hr (by rw [h]; simp), fun j hj => ?_⟩
    by_cases hji : j = i
    · rw [hji]
      exact hy.wpOp hi hT ⟨⟨hT, hc.imp up id⟩, H⟩
    · have hstep := H.2 j (ready_mono hj hji)
      obtain ⟨hjun, oj, hoj, hall⟩ := mem_ready.1 hj
      have hapart : oi.apart ops oj = true := hfree j oj hoj hji hjun (fun e he hb heq => by
        have h2 := hall e he hb
        rw [heq] at h2
        have h3 := (mem_ready.1 hr).1
        rcases Nat.lt_or_ge i listed.size with h' | h'
        · simp [h'] at h2 h3
          rw [h3] at h2
          cases h2
        · simp [Array.getElem?_eq_none h'] at h2)
      refine wpOp_mono (fun a' w' h => ?_) (wpOp_putIf hoj hapart (fun cs b => hsel i oi cs b hi) (fun cs b => hsel j oj cs b hoj) hQ hy hstep)
      obtain ⟨hy', hSw, hG⟩ := h
      have hc' : came St (listed.setIfInBounds j true) ∨ S w' := hSw.2.imp (fun ⟨s, hs, h⟩ => by
        have hne : i ≠ s := fun e => hiS (by rw [e]; exact hs)
        refine ⟨s, hs, ?_⟩
        rw [Array.setIfInBounds_comm _ _ (Ne.symm hji), getD_set_ne false hne] at h
        exact h) id
      refine ⟨⟨hSw.1, hc'⟩, ih (listed.setIfInBounds j true) a' w' (fun k ok hk hki hun hno => hfree k ok hk hki ?_ hno) (ready_mono hr (Ne.symm hji)) hy' hSw.1 hc' ?_⟩
      · by_cases hjk : j = k
        · rw [← hjk]; exact hjun
        · rwa [getD_set_ne true hjk] at hun
      · rwa [Array.setIfInBounds_comm _ _ hji]

/-- Take number i first. -/
theorem G_take {i : Nat} {oi : Oper} {v : Value} {fuel : Nat} {listed : Array Bool} {a : Act} {w : World} (hi : ops[i]? = some oi)
    (hs : Region.noSelect ops = true) (hf : Region.free md ops listed i = true) (hr : (Region.ready md ops listed).contains i = true) (hiS : St.contains i = false) (hwt : waits md ops St i = true) (hnc : (St.all fun s => !listed.getD s false) = true)
    (hQ : ∀ c a w, Q (.panic c) (a.put oi.dst v) w → Q (.panic c) a w) (hy : YieldsIf P ops (fun w => T w ∧ S w) oi v a) (hS : T w ∧ S w)
    (h : anyG P md ops Q T S St fuel (listed.setIfInBounds i true) (a.put oi.dst v) w) : anyG P md ops Q T S St (fuel + 1) listed a w :=
  G_first hi (fun h => by rw [List.contains_iff_mem.2 h] at hiS; cases hiS) hwt (Region.noSelect_spec hs) hQ fuel listed a w (Region.free_spec hi hf) (by simpa using hr) (fun ⟨s, hs, hc⟩ => by
    have := List.all_eq_true.1 hnc s hs
    rw [hc] at this
    cases this) hy hS h
/-- Take number i first, where it reads what always stands. -/
theorem G_takeA {i : Nat} {oi : Oper} {v : Value} {fuel : Nat} {listed : Array Bool} {a : Act} {w : World} (hi : ops[i]? = some oi)
    (hs : Region.noSelect ops = true) (hf : Region.free md ops listed i = true) (hr : (Region.ready md ops listed).contains i = true) (hiS : St.contains i = false)
    (hQ : ∀ c a w, Q (.panic c) (a.put oi.dst v) w → Q (.panic c) a w) (hy : YieldsIf P ops T oi v a) (hT : T w) (hc : came St listed ∨ S w)
    (h : anyG P md ops Q T S St fuel (listed.setIfInBounds i true) (a.put oi.dst v) w) : anyG P md ops Q T S St (fuel + 1) listed a w :=
  G_always hi (fun h => by rw [List.contains_iff_mem.2 h] at hiS; cases hiS) (Region.noSelect_spec hs) hQ fuel listed a w (Region.free_spec hi hf) (by simpa using hr) hy hT hc h
theorem wpOp_of_wp {i : Nat} {o : Oper} {K : Act → World → Prop} {a : Act} {w : World} (hi : ops[i]? = some o) (hg : o.guard = none) (h : o.wp P a w K Q) : wpOp P ops Q i K a w := by
  unfold wpOp
  rw [hi]
  dsimp only
  rw [if_pos (by simp [Region.wanted, hg])]
  exact Or.inl h
theorem wpOp_of_wpG {i : Nat} {o : Oper} {K : Act → World → Prop} {a : Act} {w : World} (hi : ops[i]? = some o) (hg : Region.wanted o (yielded ops a.tmps) = true) (h : o.wp P a w K Q) : wpOp P ops Q i K a w := by
  unfold wpOp
  rw [hi]
  dsimp only
  rw [if_pos hg]
  exact Or.inl h
/-- More may be laid down from here on. -/
theorem G_mono {T' S' : World → Prop} (hT : ∀ w, T' w → T w) (hS : ∀ w, S' w → S w) : ∀ (fuel : Nat) (listed : Array Bool) (a : Act) (w : World), anyG P md ops Q T' S' St fuel listed a w → anyG P md ops Q T S St fuel listed a w
  | 0, _, _, _, h => h
  | fuel + 1, _, _, _, h => ⟨h.1, fun i hi => wpOp_mono (fun a' w' h' => ⟨⟨hT _ h'.1.1, h'.1.2.imp id (hS _)⟩, G_mono hT hS fuel _ a' w' h'.2⟩) (h.2 i hi)⟩
/-- One alone may come up. -/
theorem G_one {i : Nat} {fuel : Nat} {listed : Array Bool} {a : Act} {w : World} (hr : Region.ready md ops listed = [i])
    (h : wpOp P ops Q i (fun a' w' => (T w' ∧ (came St (listed.setIfInBounds i true) ∨ S w')) ∧ anyG P md ops Q T S St fuel (listed.setIfInBounds i true) a' w') a w) : anyG P md ops Q T S St (fuel + 1) listed a w :=
  ⟨fun h0 => (by rw [hr] at h0; cases h0), fun j hj => (by rw [hr] at hj; rw [List.mem_singleton] at hj; rw [hj]; exact h)⟩
/-- All have come up. -/
theorem G_done {listed : Array Bool} {a : Act} {w : World} (hr : Region.ready md ops listed = []) (h : Q .normal a w) : ∀ fuel, anyG P md ops Q T S St fuel listed a w
  | 0 => ⟨hr, h⟩
  | _ + 1 => ⟨fun _ => h, by rw [hr]; simp⟩

end

end Go.Proofs.Ythlfgddhkffilaa
