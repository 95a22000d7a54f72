/- Cards in memory: a struct of its own block, the numbers of those that are marked a map in another; lemmas on both. -/
import Derived.Test.YtglddgjljohkiabAr
import Derived.Maps.OwnSet
namespace Go.Proofs.Ytglddgjljohkiab
open Go.RowKit W

/-- A number goes to the end of a list, if it is not yet there. -/
def addM (M : List Int) (k : Int) : List Int := if M.contains k then M else M ++ [k]
theorem has_addM (M : List Int) (k j : Int) : (addM M k).contains j = (M.contains j || j == k) := by
  unfold addM
  by_cases c : M.contains k = true
  · rw [if_pos c]
    by_cases e : j = k
    · subst e; rw [c]; rfl
    · simp [e]
  · rw [if_neg c]
    by_cases e : j = k <;> simp [e]
theorem len_addM (M : List Int) (k : Int) : (addM M k).length ≤ M.length + 1 := by
  unfold addM; split <;> simp

theorem lawU : Maps.Keyed Try.prog 118 := Maps.int_keyed Try.underlying118
theorem zeroU (w : World) : (zeroValue 144).run Try.prog w = .ok (.agg #[]) w := by kernel_rfl

/-- Cards: their struct is the block p, their marks the block q; from the place B on there are c; those numbered M are marked. -/
structure Cd (w : World) (p q : Nat) (B c : Int) (M : List Int) : Prop where
  hp : w.heap[p]? = some (.cells #[.int .i64 B, .int .u64 c, .map (some q)] 121 (0, 0))
  hq : ∃ D : DataW Unit, w.ownsMap Try.prog 118 unitElem q M.length D ∧ (∀ k : Int, Maps.has D (.int .u64 k) = M.contains k) ∧ Maps.size D = M.length

theorem own_same {H : Type} {P : Program} {k : TypeId} {R : Value → Option (DataW H × List MemPlace)} {w w' : World} {b n : Nat} {D : DataW H} (h : w.ownsMap P k R b n D) (e : w'.heap[b]? = w.heap[b]?) : w'.ownsMap P k R b n D := by
  obtain ⟨es, clock, hb, r⟩ := h
  exact ⟨es, clock, e.trans hb, r⟩
theorem own_tight {H : Type} {P : Program} {k : TypeId} {R : Value → Option (DataW H × List MemPlace)} {w : World} {b n m : Nat} {D : DataW H} (h : w.ownsMap P k R b n D) (e : Maps.size D = m) : w.ownsMap P k R b m D := by
  obtain ⟨es, clock, hb, F, hs, rfl⟩ := h
  exact ⟨es, clock, hb, F, by rw [← e]; simp [Maps.size, length_sorted], rfl⟩

theorem Cd.ltp {w : World} {p q : Nat} {B c : Int} {M : List Int} (h : Cd w p q B c M) : p < w.heap.size := lt_of_some h.hp
theorem Cd.ltq {w : World} {p q : Nat} {B c : Int} {M : List Int} (h : Cd w p q B c M) : q < w.heap.size := by
  obtain ⟨D, h1, _⟩ := h.hq
  exact h1.lt
theorem Cd.ne {w : World} {p q : Nat} {B c : Int} {M : List Int} (h : Cd w p q B c M) : p ≠ q := by
  intro e
  obtain ⟨D, ⟨es, clock, hb, _⟩, _⟩ := h.hq
  have h1 := h.hp
  rw [e, hb] at h1
  simp at h1
theorem Cd.same {w w' : World} {p q : Nat} {B c : Int} {M : List Int} (h : Cd w p q B c M) (ep : w'.heap[p]? = w.heap[p]?) (eq : w'.heap[q]? = w.heap[q]?) : Cd w' p q B c M := by
  obtain ⟨D, h1, h2⟩ := h.hq
  exact ⟨ep.trans h.hp, D, own_same h1 eq, h2⟩
theorem Cd.below {w w' : World} {p q X : Nat} {B c : Int} {M : List Int} (h : Cd w p q B c M) (hb : Below X w w') (hX : w.heap.size ≤ X) : Cd w' p q B c M :=
  h.same (hb.block p (Nat.lt_of_lt_of_le h.ltp hX)) (hb.block q (Nat.lt_of_lt_of_le h.ltq hX))
theorem Cd.alloc {w : World} {p q : Nat} {B c : Int} {M : List Int} (h : Cd w p q B c M) (o : Obj) : Cd (w.alloc o) p q B c M :=
  h.same (Below.heap_alloc _ _ _ h.ltp) (Below.heap_alloc _ _ _ h.ltq)
theorem Cd.drew {w : World} {p q : Nat} {B c : Int} {M : List Int} (h : Cd w p q B c M) : Cd w.drew p q B c M := h.same rfl rfl
theorem Cd.cells {w : World} {p q : Nat} {B c : Int} {M : List Int} (h : Cd w p q B c M) :
    w.cell? ⟨p, 0, none⟩ = some (.int .i64 B) ∧ w.cell? ⟨p, 1, none⟩ = some (.int .u64 c) ∧ w.cell? ⟨p, 2, none⟩ = some (.map (some q)) := by
  have hp := h.hp
  refine ⟨?_, ?_, ?_⟩ <;> simp [World.cell?, hp]
theorem Cd.frozen {w : World} {p q : Nat} {B c : Int} {M : List Int} (h : Cd w p q B c M) (o : Nat) : w.frozen? ⟨p, o, none⟩ = false := by
  have hp := h.hp
  simp [World.frozen?, hp]

/-- A card is marked: behind the store the map reads so. -/
theorem Cd.put {w w' : World} {p q : Nat} {B c k : Int} {M : List Int} {D : DataW Unit} {n : Nat} (h : w.heap[p]? = some (.cells #[.int .i64 B, .int .u64 c, .map (some q)] 121 (0, 0)))
    (h0 : w.ownsMap Try.prog 118 unitElem q M.length D) (h1 : ∀ k : Int, Maps.has D (.int .u64 k) = M.contains k) (h2 : Maps.size D = M.length) (hne : p ≠ q)
    (h3 : w'.ownsMap Try.prog 118 unitElem q n (D.put (.int .u64 k) (.agg []))) (h4 : w.grownBy w' (some q)) : Cd w' p q B c (addM M k) ∧ Sv p q w w' := by
  have hs : Maps.size (D.put (.int .u64 k) (.agg [])) = (addM M k).length := by
    rw [Maps.size_put (h0.tidy lawU), h1, h2]
    unfold addM
    split <;> simp
  refine ⟨⟨(h4.block p (lt_of_some h) (fun e => hne (by cases e; rfl))).trans h, _, own_tight h3 hs, fun j => ?_, hs⟩, ⟨h4.os, h4.tape, h4.output, h4.size, fun i hi _ e => h4.block i hi (fun e' => e (by cases e'; rfl))⟩⟩
  rw [has_addM]
  by_cases e : j = k
  · subst e
    rw [Maps.has_put_same (k := .int .u64 j) h0.isMap trivial]
    simp
  · rw [Maps.has_put_other (by simpa using e), h1]
    simp [e]
/-- None is marked. -/
theorem Cd.none {w : World} {p q : Nat} {B c : Int} (h : w.heap[p]? = some (.cells #[.int .i64 B, .int .u64 c, .map (some q)] 121 (0, 0))) (h1 : w.ownsMap Try.prog 118 unitElem q 0 (.map [] : DataW Unit)) : Cd w p q B c [] :=
  ⟨h, _, h1, fun _ => rfl, rfl⟩

end Go.Proofs.Ytglddgjljohkiab
