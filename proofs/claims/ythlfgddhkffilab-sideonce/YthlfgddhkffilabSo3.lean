/- The words that SideOnce's looks are asked. -/
import Derived.Test.YthlfgddhkffilabSo2
namespace Go.Proofs.Ythlfgddhkffilab
open Go.RowKit W Kp Stl

def wordsO (r q : List En) : List Int := (r ++ q).map Prod.fst ++ (r ++ q).map Prod.snd
theorem wordsO_len (r q : List En) : (wordsO r q).length = 2 * (r.length + q.length) := by
  unfold wordsO
  simp
  omega
theorem wordsO_mem {r q : List En} {e : En} (h : e ∈ r ∨ e ∈ q) : e.1 ∈ wordsO r q ∧ e.2 ∈ wordsO r q := by
  unfold wordsO
  have h' : e ∈ r ++ q := List.mem_append.2 h
  exact ⟨List.mem_append.2 (Or.inl (List.mem_map.2 ⟨e, h', rfl⟩)), List.mem_append.2 (Or.inr (List.mem_map.2 ⟨e, h', rfl⟩))⟩

theorem so_W {c bw p : Nat} {L : Pairs} {E : List Int} {vr : Value} {A : List Int} {q r : List En} : ∀ e ∈ (mkSd (wdOb c bw L E) p vr).wt (stS (mkSd (wdOb c bw L E) p vr) oIs (oKp L) (A, q) r), e.1 ∈ wordsO r q ∧ e.2 ∈ wordsO r q := by
  rw [so_S]
  intro e he
  have he : e ∈ q ++ (tD L (L.length + 1) A r).2.1 := he
  rcases List.mem_append.1 he with he | he
  · exact wordsO_mem (Or.inr he)
  · exact wordsO_mem (Or.inl (List.mem_filter.1 (turns_sub isC (kpD L (L.length + 1)) _ _ A e (Or.inl he))).1)

end Go.Proofs.Ythlfgddhkffilab
