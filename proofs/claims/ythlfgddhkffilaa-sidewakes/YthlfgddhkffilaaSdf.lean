/- A Side beside whatever its looks have of their own: what waits may be replaced, and written entry by entry. -/
import Derived.Test.YthlfgddhkffilaaSde
namespace Go.Proofs.Ythlfgddhkffilaa
open Go.RowKit W Kp Stl

theorem row_set {w : World} {base size n g cap : Nat} {e : TypeId} {xs : List Value} (h : w.ownsRow base e size (.slice (some ⟨g, 0, none⟩) n cap) n xs) (i : Nat) (u : Value) : (w.setCell ⟨g, i, none⟩ u).ownsRow base e size (.slice (some ⟨g, 0, none⟩) n cap) n (xs.set i u) := by
  refine ⟨by rw [List.length_set]; exact h.1, ?_⟩
  rcases h.2 with ⟨hv, _⟩ | ⟨g', cap', cur, hv, hb, hg, h1, h2, h3, h4⟩
  · simp at hv
  · simp at hv
    obtain ⟨rfl, rfl⟩ := hv
    refine Or.inr ⟨g, cap, cur.setIfInBounds i u, rfl, hb, ?_, h1, h2, by rw [Array.size_setIfInBounds]; exact h3, ?_⟩
    · simp only [World.setCell, Array.getElem?_modify, if_true, hg, Option.map_some]
      rfl
    · rw [Array.toList_setIfInBounds, List.take_set, h4]

theorem ev_set : ∀ (l : List En) (i : Nat) (g z : Int), ev (l.set i (g, z)) = ((ev l).set (i * 2) (.int .i64 g)).set (i * 2 + 1) (.int .i64 z)
  | [], _, _, _ => rfl
  | e :: l, 0, g, z => by simp [ev]
  | e :: l, i + 1, g, z => by
    have ih := ev_set l i g z
    have e1 : ev (e :: l) = .int .i64 e.1 :: .int .i64 e.2 :: ev l := by simp [ev]
    have e2 : ev ((e :: l).set (i + 1) (g, z)) = .int .i64 e.1 :: .int .i64 e.2 :: ev (l.set i (g, z)) := by simp [ev]
    rw [e1, e2, ih, show (i + 1) * 2 = i * 2 + 1 + 1 by omega]
    simp

theorem sets_mk {α : Type} (o : Ob α) (p : Nat) (vr : Value) : SdSets (mkSd o p vr) where
  setv := by
    rintro F s w ⟨F0, ad, cap, h1, h2, h3, h4, h5, h6, h7, h8⟩ w1 q a1 c1 hb hown
    have h5 : F p := h5
    have lp := lt_of_some h2
    have kk : ∀ k, k ≠ p → (w1.setCell ⟨p, 1, none⟩ (.slice a1 q.length c1)).heap[k]? = w1.heap[k]? := fun k hk => Below.heap_setCell _ _ _ _ hk
    have hs : (w1.setCell ⟨p, 1, none⟩ (.slice a1 q.length c1)).heap.size = w1.heap.size := by simp [World.setCell]
    have hbs := hb.size
    refine ⟨F0, a1, c1, o.keep (o.below h1 hb) (by show w1.heap.size ≤ (w1.setCell ⟨p, 1, none⟩ (.slice a1 q.length c1)).heap.size; rw [hs]; exact Nat.le_refl _) (fun k h => kk k (fun e => h6 (by rw [← e]; exact h))), ?_, row_base (row_keep hown (fun k e => kk k (by have := (row_lt hown k e).1; omega))) (fun _ _ => Nat.zero_le _), fun k h => Or.inl (h4 k h), Or.inl h5, h6, fun k e => ?_, fun k h => ?_⟩
    · have h2' := (hb.block p lp).trans h2
      show (w1.setCell ⟨p, 1, none⟩ (.slice a1 q.length c1)).heap[p]? = _
      simp only [World.setCell, Array.getElem?_modify, if_true, h2', Option.map_some]
      simp
      rfl
    · exact ⟨Or.inr e, fun h => by have h9 := h8 k (h4 k h); have := (row_lt hown k e).1; omega⟩
    · show k < (w1.setCell ⟨p, 1, none⟩ (.slice a1 q.length c1)).heap.size
      rw [hs]
      rcases h with h | h
      · have := h8 k h; omega
      · exact (row_lt hown k h).2
  seti := by
    rintro F s w ⟨F0, ad', cap', h1, h2, h3, h4, h5, h6, h7, h8⟩ ad cap hp i hi g z
    have hp : w.heap[p]? = some (.cells #[vr, .slice ad s.2.length cap] 82 (0, 0)) := hp
    have hi : i < s.2.length := hi
    have he := h2.symm.trans hp
    simp at he
    obtain ⟨rfl, rfl⟩ := he
    obtain ⟨b, rfl⟩ : ∃ b, ad' = some ⟨b, 0, none⟩ := by
      rcases h3.2 with ⟨_, h0⟩ | ⟨g', cap'', cur, hv, _⟩
      · omega
      · simp at hv
        exact ⟨g', hv.1⟩
    obtain ⟨cur, hcur⟩ := row_type h3 b rfl
    have hbp : b ≠ p := fun e => by rw [e, h2] at hcur; simp at hcur
    have kk : ∀ (u v : Value) k, k ≠ b → ((w.setCell ⟨b, 0 + i * 2, none⟩ u).setCell ⟨b, 0 + i * 2 + 1, none⟩ v).heap[k]? = w.heap[k]? := fun u v k hk => (Below.heap_setCell _ _ _ _ hk).trans (Below.heap_setCell _ _ _ _ hk)
    have hs : ∀ (u v : Value), ((w.setCell ⟨b, 0 + i * 2, none⟩ u).setCell ⟨b, 0 + i * 2 + 1, none⟩ v).heap.size = w.heap.size := fun u v => by simp [World.setCell]
    refine ⟨b, 0, rfl, (h7 b rfl).1, hbp, by simp [World.frozen?, hcur], by simp [World.frozen?, hcur], F0, some ⟨b, 0, none⟩, cap', o.keep h1 (by rw [hs]; exact Nat.le_refl _) (fun k h => kk _ _ k (fun e => (h7 b rfl).2 (by rw [← e]; exact h))), ?_, ?_, h4, h5, h6, ?_, ?_⟩
    · show ((w.setCell ⟨b, 0 + i * 2, none⟩ (.int .i64 g)).setCell ⟨b, 0 + i * 2 + 1, none⟩ (.int .i64 z)).heap[p]? = some (.cells #[vr, .slice (some ⟨b, 0, none⟩) (s.2.set i (g, z)).length cap'] 82 (0, 0))
      rw [List.length_set]
      exact (kk _ _ p (Ne.symm hbp)).trans h2
    · show ((w.setCell ⟨b, 0 + i * 2, none⟩ (.int .i64 g)).setCell ⟨b, 0 + i * 2 + 1, none⟩ (.int .i64 z)).ownsRow 0 84 2 (.slice (some ⟨b, 0, none⟩) (s.2.set i (g, z)).length cap') (s.2.set i (g, z)).length (ev (s.2.set i (g, z)))
      rw [List.length_set, ev_set, Nat.zero_add]
      exact row_set (row_set h3 (i * 2) _) (i * 2 + 1) _
    · intro k e
      have e : some k = (Value.slice (some ⟨b, 0, none⟩) (s.2.set i (g, z)).length cap').ownBlock := e
      exact h7 k e
    · intro k h
      rw [hs]
      exact h8 k h

end Go.Proofs.Ythlfgddhkffilaa
