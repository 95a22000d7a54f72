/- A wood and a world: View of the wood, with where what it tells lies. -/
import Derived.Test.YtakofbkmhmcnfabGreatJ25
import Derived.Test.YtakofbkmhmcnfabGreatVw9
namespace Go.Proofs.YtakofbkmhmcnfabGreat
open Go.RowKit W Kp Stl

section
variable {c : Bc} {F : Nat → Prop} {S : Ww × Wrs} {w : World}

theorem viewB_new (h : (boO c).J F S w) (hq : S.1.q.length ≤ 90000) :
    Calls Tryz.prog 20 #[.pointer (some ⟨c.a.pw, 0, none⟩)] w fun e w' => ∃ r2 d2 na nn nc, e = .returned (.agg #[.slice r2 12 d2, .slice na nn nc]) ∧ LpN w' w.heap.size r2 (vwL c.a.N S.1.s.y S.1.s.g S.1.s.ws S.1.q S.1.s.rs).1 ∧ LnN w' w.heap.size na (vwL c.a.N S.1.s.y S.1.s.g S.1.s.ws S.1.q S.1.s.rs).2.2 ∧ nn = (vwL c.a.N S.1.s.y S.1.s.g S.1.s.ws S.1.q S.1.s.rs).2.2.length ∧ Below w.heap.size w w' := by
  obtain ⟨FW, h1, _⟩ := bo_w h
  obtain ⟨F0, g1, _⟩ := ws_wod h1
  obtain ⟨c0, _, c2, c3, _, rl, _, cr9⟩ := wod_cells g1
  have ha := (wod_arena g1).1
  obtain ⟨F0', ar, cr, ⟨F00, ad, cap, ⟨own, pq, hM, hO⟩, d2, d3, d4, _⟩, r0, r1, hFW⟩ := h1
  have hl : Lq w (some ⟨c.a.nb, 0, none⟩) S.1.s.rs := by
    have hr := hM.rt
    refine ⟨fun _ => ⟨c.a.nb, 0, rfl, lt_of_some hr, fun i hi => ?_⟩, fun _ => ⟨c.a.nb, 0, _, rfl, hr⟩⟩
    rw [Nat.zero_add]
    exact (cr9 i (by rw [← rl]; exact hi)).1
  have P := view_new (l := S.1.s.rs) (ra := some ⟨c.a.nb, 0, none⟩) (rc := 12) ⟨c0, c2, ha, d2, row_pairs d3, hq⟩ (by rw [rl]; exact c3) hl (by rw [rl]; decide)
  rw [rl] at P
  exact P
end

end Go.Proofs.YtakofbkmhmcnfabGreat
