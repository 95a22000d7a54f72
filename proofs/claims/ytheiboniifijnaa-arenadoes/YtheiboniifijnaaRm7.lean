/- What the document's own arena tells of all things: a contract, over the seat's own translation; nothing that was in memory turns. -/
import Derived.Test.YtheiboniifijnaaRm6
namespace Go.Proofs.Ytheiboniifijnaa
open Go.RowKit W

set_option maxRecDepth 100000 in
set_option maxHeartbeats 4000000 in
theorem rThings_any {p q N O y g : Nat} {ws : List Int} (w : World) (h : Rm w p q N O y g ws) :
    Calls Try.prog 44 #[.pointer (some ⟨p, 0, none⟩)] w fun e w' => ∃ v1 v2, e = .returned (.tuple #[v1, v2]) ∧ w'.ownsRow w.heap.size 3 1 v1 (thY N y g ws).length ((thY N y g ws).map (Value.int .i64)) ∧ w'.ownsRow w.heap.size 3 1 v2 (thO N y g ws).length ((thO N y g ws).map (Value.int .i64)) ∧ Below w.heap.size w w' := by
  obtain ⟨c0, c1, c2, c3⟩ := h.cells
  have k1 := h.hN'
  have k2 := h.hg
  have k3 := h.hO
  have k4 := h.hy
  have b1 : IntKind.i64.wrap ((N : Int) + g) = (N : Int) + g := by rw [IntKind.wrap_i64]; omega
  go_enter Try.func44, Try.ntmps44
  go_wp2_with fail
  go_region_held3 (fun w' => w'.cell? ⟨p, 1, none⟩ = some (.int .i64 N) ∧ w'.cell? ⟨p, 2, none⟩ = some (.int .i64 y) ∧ w'.cell? ⟨p, 3, none⟩ = some (.int .i64 g)) (go_keep)
    (first
      | (go_at_call_of 74 (Value.int IntKind.i64 0); refine (rthings_any (p := p) (q := q) (N := N) (O := O) (y := y) (g := g) (ws := ws) 0 y _ ?_ ?_ ?_ ?_).mono ?_; exact h.drew; omega; omega; omega; rintro e w3 ⟨v1, rfl, ho1, hb1⟩; have hR1 : Rm w3 p q N O y g ws := h.drew.below hb1 (Nat.le_refl _); obtain ⟨d0, d1, d2, d3⟩ := hR1.cells)
      | (go_at_call 74; refine (rthings_any (p := p) (q := q) (N := N) (O := O) (y := y) (g := g) (ws := ws) N ((N : Int) + g) _ ?_ ?_ ?_ ?_).mono ?_; exact hR1; omega; omega; omega; rintro e w4 ⟨v2, rfl, ho2, hb2⟩; have hR2 : Rm w4 p q N O y g ws := hR1.below hb2 (Nat.le_refl _); obtain ⟨d0, d1, d2, d3⟩ := hR2.cells))
  go_wp2_with fail
  go_ret2
  have hz : w.heap.size ≤ w3.heap.size := hb1.size
  exact ⟨v1, v2, rfl, owned_below ho1 hb2, owned_mono ho2 hz, ((Below.refl _ w).drew.trans hb1).trans (hb2.mono hz)⟩

end Go.Proofs.Ytheiboniifijnaa
