/- A Side beside whatever its looks have of their own. -/
import Derived.Test.YthlfgddhkffilaaSd6
namespace Go.Proofs.Ythlfgddhkffilaa
open Go.RowKit W Kp Stl

/-- Something in memory, and a Side apart from it. -/
def mkSd {α : Type} (o : Ob α) (p : Nat) (vr : Value) : SdOb (α × List En) where
  J F s w := ∃ F0 ad cap, o.J F0 s.1 w ∧ w.heap[p]? = some (.cells #[vr, .slice ad s.2.length cap] 82 (0, 0)) ∧ w.ownsRow 0 84 2 (.slice ad s.2.length cap) s.2.length (ev s.2) ∧ (∀ k, F0 k → F k) ∧ F p ∧ ¬ F0 p ∧ (∀ k, some k = (Value.slice ad s.2.length cap).ownBlock → F k ∧ ¬ F0 k) ∧ (∀ k, F k → k < w.heap.size)
  lt := by
    rintro F t w ⟨F0, ad, cap, h1, h2, h3, h4, h5, h6, h7, h8⟩ k hk
    exact h8 k hk
  keep := by
    rintro F t w w' ⟨F0, ad, cap, h1, h2, h3, h4, h5, h6, h7, h8⟩ hs hk
    exact ⟨F0, ad, cap, o.keep h1 hs (fun k h => hk k (h4 k h)), (hk p h5).trans h2, row_keep h3 (fun k e => hk k (h7 k e).1), h4, h5, h6, h7, fun k h => Nat.lt_of_lt_of_le (h8 k h) hs⟩
  p := p
  vr := vr
  wt s := s.2
  put s q := (s.1, q)
  side := by
    rintro F s w ⟨F0, ad, cap, h1, h2, h3, h4, h5, h6, h7, h8⟩
    refine ⟨ad, cap, h2, ⟨row_pairs h3, ?_, ?_⟩, h5, fun hp z e => (h7 z.block (by rw [e]; rfl)).1⟩
    · rcases h3.2 with ⟨hv, h0⟩ | ⟨g, cap', cur, hv, _, _, hc, _⟩
      · omega
      · simp at hv; omega
    · intro e0
      rcases h3.2 with ⟨hv, h0⟩ | ⟨g, cap', cur, hv, _⟩
      · simp at hv; exact ⟨h0, hv.2.2⟩
      · rw [e0] at hv; simp at hv
  set := by
    rintro F s w ⟨F0, ad, cap, h1, h2, h3, h4, h5, h6, h7, h8⟩ w1 q b1 cap1 hb hown
    have lp := lt_of_some h2
    have hb1 := row_lt hown b1 rfl
    have kk : ∀ k, k ≠ p → (w1.setCell ⟨p, 1, none⟩ (.slice (some ⟨b1, 0, none⟩) q.length cap1)).heap[k]? = w1.heap[k]? := fun k hk => Below.heap_setCell _ _ _ _ hk
    have hs : (w1.setCell ⟨p, 1, none⟩ (.slice (some ⟨b1, 0, none⟩) q.length cap1)).heap.size = w1.heap.size := by simp [World.setCell]
    have hbs := hb.size
    refine ⟨F0, some ⟨b1, 0, none⟩, cap1, o.keep (o.below h1 hb) (by rw [hs]; exact Nat.le_refl _) (fun k h => kk k (fun e => h6 (by rw [← e]; exact h))), ?_, row_base (row_keep hown (fun k e => kk k (by simp [Value.ownBlock] at e; omega))) (fun _ _ => Nat.zero_le _), fun k h => Or.inl (h4 k h), Or.inl h5, h6, fun k e => ?_, fun k h => ?_⟩
    · have h2' := (hb.block p lp).trans h2
      simp only [World.setCell, Array.getElem?_modify, if_true, h2', Option.map_some]
      simp
    · simp [Value.ownBlock] at e
      exact ⟨Or.inr e, fun h => by have := h8 k (h4 k h); omega⟩
    · rw [hs]
      rcases h with h | h
      · have := h8 k h; omega
      · omega
  wt_put := fun _ _ => rfl

theorem lks_mk {α : Type} (o : Ob α) (p : Nat) (vr : Value) (D : Int → Prop) (fa fk fn : Fv) (is : α → Int → Bool) (kp : α → Int → Int × α) (nw : α → Int → Int) (ea : Ent fa.f) (ek : Ent fk.f) (en : Ent fn.f) (ha : Alives o D fa.f fa.b fa.c is) (hk : Keeps o D fk.f fk.b fk.c kp) (ht : Tells o D fn.f fn.b fn.c nw) :
    Lks (mkSd o p vr) D fa fk fn (fun s x => is s.1 x) (fun s x => ((kp s.1 x).1, ((kp s.1 x).2, s.2))) (fun s x => nw s.1 x) where
  ea := ea
  ek := ek
  en := en
  ha := by
    rintro F s w x hD ⟨F0, ad, cap, h1, _⟩
    exact ha F0 s.1 w x hD h1
  hk := by
    rintro F s w x hD ⟨F0, ad, cap, h1, h2, h3, h4, h5, h6, h7, h8⟩
    refine (hk F0 s.1 w x hD h1).mono ?_
    rintro r w' ⟨F1, rfl, hJ, hfr, hF1⟩
    have lp := lt_of_some h2
    refine ⟨fun k => F k ∨ F1 k, rfl, ⟨F1, ad, cap, hJ, (hfr.block p lp h6).trans h2, row_keep h3 (fun k e => hfr.block k (row_lt h3 k e).2 (h7 k e).2), fun k h => Or.inr h, Or.inl h5, fun h => (hF1 p h).elim h6 (fun h => by omega), fun k e => ⟨Or.inl (h7 k e).1, fun h => (hF1 k h).elim (h7 k e).2 (fun h => by have := (row_lt h3 k e).2; omega)⟩, fun k h => ?_⟩, hfr.mono h4, fun k h => ?_⟩
    · rcases h with h | h
      · exact Nat.lt_of_lt_of_le (h8 k h) hfr.size
      · exact o.lt hJ k h
    · rcases h with h | h
      · exact Or.inl h
      · exact (hF1 k h).imp (h4 k) id
  ht := by
    rintro F s w x hD ⟨F0, ad, cap, h1, _⟩
    exact ht F0 s.1 w x hD h1
  hl := fun _ _ => rfl

/-- Nothing. -/
def noOb : Ob Unit where
  J F _ _ := ∀ k, ¬ F k
  lt := fun h k hk => absurd hk (h k)
  keep := fun h _ _ => h

end Go.Proofs.Ythlfgddhkffilaa
