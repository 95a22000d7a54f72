/- A list of one-cell values that is cut from the front, and grows behind: where it lies, and what one more comes to. -/
import Derived.Test.YtglddgjljohkiabSm2
namespace Go.Proofs.Ytglddgjljohkiab
open Go.RowKit W

/-- A slice of its own row, from wherever on, holds these values; behind them the row is its own up to the slice's capacity. -/
def Qu (w : World) (e : TypeId) (v : Value) (l : List Value) : Prop :=
  ∃ g o cap cur, v = .slice (some ⟨g, o, none⟩) l.length cap ∧ w.heap[g]? = some (.cells cur e (0, 0)) ∧ l.length ≤ cap ∧ cap ≤ maxLen ∧ o + cap ≤ cur.size ∧ (cur.toList.drop o).take l.length = l

theorem Qu.keep {w w' : World} {e : TypeId} {v : Value} {l : List Value} (h : Qu w e v l) (hk : ∀ k, some k = v.ownBlock → w'.heap[k]? = w.heap[k]?) : Qu w' e v l := by
  obtain ⟨g, o, cap, cur, rfl, hg, r⟩ := h
  exact ⟨g, o, cap, cur, rfl, (hk g rfl).trans hg, r⟩
theorem Qu.lt {w : World} {e : TypeId} {v : Value} {l : List Value} (h : Qu w e v l) : ∀ k, some k = v.ownBlock → k < w.heap.size := by
  obtain ⟨g, o, cap, cur, rfl, hg, r⟩ := h
  intro k hk
  simp [Value.ownBlock] at hk
  subst hk
  exact lt_of_some hg
theorem Qu.cell {w : World} {e : TypeId} {g o n cap : Nat} {l : List Value} (h : Qu w e (.slice (some ⟨g, o, none⟩) n cap) l) (j : Nat) (u : Value) (hj : l[j]? = some u) : w.cell? ⟨g, o + j, none⟩ = some u := by
  obtain ⟨g', o', cap', cur, hv, hg, h1, h2, h3, h4⟩ := h
  simp at hv
  obtain ⟨⟨rfl, rfl⟩, rfl, rfl⟩ := hv
  have hjl : j < l.length := (List.getElem?_eq_some_iff.1 hj).1
  rw [← h4, List.getElem?_take_of_lt hjl, List.getElem?_drop] at hj
  simp [World.cell?, hg]
  simpa using hj

section
variable {P : Program} (w : World)

theorem run_append_q (t ty e : TypeId) (i : TypeInfo) (z : Value) (ht : P.underlying t = some (.slice e)) (hi : P.info? e = some i) (hz : i.zero = some z) (hsize : i.size = 1) (hby : i.bytes = 8) (hzs : z.cells.size = 1)
    {v : Value} {l : List Value} (h : Qu w e v l) (a : Addr) (c : Nat) (u : Value) (hu : w.cell? a = some u) (h1 : u.oneCell' = true) (hl : l.length ≤ 1000000) :
    ∃ v' w', (Builtin.append_ #[t, t] ty #[v, .slice (some a) 1 c]).run P w = .ok v' w' ∧ Qu w' e v' (l ++ [u]) ∧ w.grownBy w' v.ownBlock ∧ (v'.ownBlock = v.ownBlock ∨ v'.ownBlock = some w.heap.size) := by
  have hnews : ∀ j x, [u][j]? = some x → w.cell? (a.add j) = some x := fun j x hj => by
    match j, hj with
    | 0, hj => simp at hj; subst hj; simpa [Addr.add] using hu
  have hone : ∀ x ∈ [u], x.oneCell' = true := fun x hx => by simp at hx; subst hx; exact h1
  have hq := h
  obtain ⟨g, o, cap, cur, rfl, hg, k1, k2, k3, k4⟩ := h
  have hcl : l.length ≤ cur.toList.length - o := by simp; omega
  by_cases hroom : l.length + 1 ≤ cap
  · have hf := run_firstCells_some (P := P) w i.size 1 a 1 c [u] (by rw [hsize]; rfl) hnews
    have hst := run_storeCells_at P g (o + l.length) e [u] 0 cur w hg (by simp; omega) hone
    simp only [Nat.add_zero, List.length_singleton] at hst
    rw [hsize] at hf
    refine ⟨.slice (some ⟨g, o, none⟩) (l.length + 1) cap, w.setRow g (cur.toList.take (o + l.length) ++ [u] ++ cur.toList.drop (o + l.length + 1)).toArray, ?_, ?_, ?_, Or.inl rfl⟩
    · simp [Builtin.append_, run_underlying ht, sizeOf, typeInfo, hi, Builtin.lenOf, hroom, hf, hsize, Addr.add_lit, hst]
    · refine ⟨g, o, cap, _, by simp, setRow_heap w g cur _ e _ hg, by simpa using hroom, k2, ?_, ?_⟩
      · simp
        omega
      · have e1 : (cur.toList.take (o + l.length)).drop o = l := by
          rw [List.drop_take, show o + l.length - o = l.length by omega, k4]
        simp only [List.append_assoc]
        rw [List.drop_append_of_le_length (by simp; omega), e1, List.length_append, ← List.append_assoc]
        exact List.take_left' (by simp)
    · exact ⟨rfl, rfl, rfl, by simp, fun k _ hk => setRow_other w g k _ (fun e => hk (by simp [Value.ownBlock, e]))⟩
  · have holds : ∀ j x, l[j]? = some x → w.cell? ((⟨g, o, none⟩ : Addr).add j) = some x := fun j x hj => by rw [Addr.add_lit]; exact hq.cell j x hj
    have hr := run_append_grow (P := P) w t ty e i z ht hi hz ⟨g, o, none⟩ l.length cap l (by rw [hsize]; simp) holds a 1 c [u] (by rw [hsize]; rfl) hnews (by omega) (by omega) (growslice_fits (by omega) (by rw [hby]; omega))
    have hge := grownCap_ge w (l.length + 1) cap e
    have hcm : grownCap w (l.length + 1) cap e ≤ maxLen := grownCap_le_maxLen w (l.length + 1) cap e (by unfold maxLen; omega)
    refine ⟨_, _, hr, ⟨w.heap.size, 0, _, _, by simp, heap_alloc_new w.drew _, by simpa using hge, hcm, ?_, ?_⟩, ⟨rfl, rfl, rfl, by simp, fun k hk _ => Below.heap_alloc w.drew _ k hk⟩, Or.inr rfl⟩
    · simp [size_zeroCells, hzs]
      omega
    · have e1 : (l.toArray ++ [u].toArray ++ Builtin.zeroCells z.cells (grownCap w (l.length + 1) cap e - (l.length + 1))).toList = (l ++ [u]) ++ (Builtin.zeroCells z.cells (grownCap w (l.length + 1) cap e - (l.length + 1))).toList := by simp
      rw [e1, List.drop_zero]
      exact List.take_left

theorem wpList_append_q {ops : Array Oper} {rest : List Oper} {o : Oper} {a : Act} {Q : Exit → Act → World → Prop} (hgd : o.guard = none) (s x : Operand) (t : TypeId)
    (ho : o.op = .call { callee := .builtin .append, args := #[s, x], argTypes := #[t, t] })
    (e : TypeId) (i : TypeInfo) (z : Value) (ht : P.underlying t = some (.slice e)) (hi : P.info? e = some i) (hz : i.zero = some z) (hsize : i.size = 1) (hby : i.bytes = 8) (hzs : z.cells.size = 1)
    (v : Value) (l : List Value) (hs : a.eval s = v) (h : Qu w e v l) (ad : Addr) (c : Nat) (u : Value) (hx : a.eval x = .slice (some ad) 1 c) (hu : w.cell? ad = some u) (h1 : u.oneCell' = true) (hl : l.length ≤ 1000000)
    (hK : ∀ v' w', Qu w' e v' (l ++ [u]) → w.grownBy w' v.ownBlock → (v'.ownBlock = v.ownBlock ∨ v'.ownBlock = some w.heap.size) → wpList P ops Q rest (a.put o.dst v') w') : wpList P ops Q (o :: rest) a w := by
  refine wpList_plain hgd fun K hK' => ?_
  obtain ⟨v', w', hr, k1, k2, k3⟩ := run_append_q (P := P) w t o.type e i z ht hi hz hsize hby hzs h ad c u hu h1 hl
  unfold Oper.wp execOp
  simp only [ho, resolve, invoke, builtin, Sem.run_bind, Sem.run_pure, Result.andThen_ok, List.map_toArray, List.map_cons, List.map_nil, hs, hx, hr]
  exact hK' _ _ (hK v' w' k1 k2 k3)

end

end Go.Proofs.Ytglddgjljohkiab
