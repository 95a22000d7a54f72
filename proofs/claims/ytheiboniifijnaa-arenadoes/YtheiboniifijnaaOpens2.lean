/- A list of steps that came in, opened: what a walk is told of it, and that each place fits 64 bits. -/
import Derived.Test.YtheiboniifijnaaOpens
import Derived.OpenShut
namespace Go.Proofs.Ytheiboniifijnaa
open Go.ChangeShapes Go.WideShapes Go.ChangeAt Go.RowKit Go.Joins Go.Deep W

/-- A list of steps that came in, each place of which fits 64 bits. -/
def IsStepsIn (w : World) (ad : Option Addr) (n : Nat) (S : Nat → Int × Int × Int × Int) : Prop := IsSteps w ad n S ∧ ∀ i, i < n → (S i).2.1 ≤ 9223372036854775807

set_option maxRecDepth 100000 in
theorem open_step2 {H : Type} {enc : TypeId × Value → H} {W : World} {sp : Nat → Bool} {held : Bool} {fuel : Nat} {cs : List Value} {x : DataW H × List MemPlace}
    (hf : DataW.trod enc Try.prog W 0 sp held fuel 49 cs = some x) : ∃ a b c d : Int, cs = [.int .i64 a, .int .i64 b, .int .i64 c, .int .i64 d] ∧ b ≤ 9223372036854775807 := by
  obtain ⟨y0, y1, y2, y3, n, _, hl, t0, t1, t2, t3⟩ := trod_struct4 Try.underlying49 hf
  rw [cellsStep] at hl
  match cs, hl with
  | [c0, c1, c2, c3], _ =>
    obtain ⟨a, ea, _⟩ := DataW.trod_int Try.underlying3 t0
    obtain ⟨b, eb, _, wb⟩ := DataW.trod_int Try.underlying3 t1
    obtain ⟨c, ec, _⟩ := DataW.trod_int Try.underlying3 t2
    obtain ⟨d, ed, _⟩ := DataW.trod_int Try.underlying2 t3
    simp [cellsInt] at ea eb ec
    simp [cellsInt64] at ed
    exact ⟨a, b, c, d, by rw [ea, eb, ec, ed], (bounds_i64 wb).2⟩

set_option maxRecDepth 100000 in
theorem open_stepsIn {H : Type} {enc : TypeId × Value → H} {W : World} {sp : Nat → Bool} {held : Bool} {fuel len cap : Nat} {ad : Option Addr} {x : DataW H × List MemPlace}
    (hf : DataW.trod enc Try.prog W 0 sp held fuel 39 [.slice ad len cap] = some x) : ∃ S, IsStepsIn W ad len S := by
  rcases open_slice Try.underlying39 hf with ⟨hcs, _⟩ | ⟨z, l, c, m, n, D, Pl, hcs, hb, hl, hm, hmm, _, hall⟩
  · simp at hcs
    obtain ⟨rfl, rfl, rfl⟩ := hcs
    exact ⟨fun _ => (0, 0, 0, 0), fun h => by omega, fun i h => by omega⟩
  · simp at hcs
    obtain ⟨rfl, rfl, rfl⟩ := hcs
    have hlm : len ≤ m := by rw [hmm]; split <;> omega
    have key : ∀ i, i < len → ∃ s : Int × Int × Int × Int, (W.cell? (z.add (i * 4)) = some (.int .i64 s.1) ∧ W.cell? (z.add (i * 4 + 1)) = some (.int .i64 s.2.1) ∧ W.cell? (z.add (i * 4 + 2)) = some (.int .i64 s.2.2.1) ∧ W.cell? (z.add (i * 4 + 3)) = some (.int .i64 s.2.2.2)) ∧ s.2.1 ≤ 9223372036854775807 := by
      intro i hi
      obtain ⟨cs', h1, h2⟩ := hall i (by omega)
      rw [cellsStep] at h1
      obtain ⟨_, _, hcell⟩ := World.cells?_some h1
      obtain ⟨a, b, c, d, rfl, hb⟩ := open_step2 h2
      refine ⟨(a, b, c, d), ⟨?_, ?_, ?_, ?_⟩, hb⟩
      · have := hcell 0 (by omega); rw [add_add] at this; simpa using this
      · have := hcell 1 (by omega); rw [add_add] at this; simpa using this
      · have := hcell 2 (by omega); rw [add_add] at this; simpa using this
      · have := hcell 3 (by omega); rw [add_add] at this; simpa using this
    obtain ⟨S, hS⟩ := choose_lt key
    refine ⟨S, fun hp => ?_, fun i hi => (hS i hi).2⟩
    obtain ⟨b, o, spot⟩ := z
    have h0 := (hS 0 hp).1.1
    have hspot : spot = none := by simpa [Addr.add] using World.cell?_spot h0
    subst hspot
    refine ⟨b, o, rfl, World.block_lt_of_cell? W (⟨b, o, none⟩ : Addr) (by simpa [Addr.add] using h0), fun i hi => ?_⟩
    obtain ⟨k0, k1, k2, k3⟩ := (hS i hi).1
    have ea : ∀ j, (⟨b, o, none⟩ : Addr).add j = ⟨b, o + j, none⟩ := fun j => by simp [Addr.add]
    rw [ea] at k0 k1 k2 k3
    exact ⟨k0, by rw [Nat.add_assoc]; exact k1, by rw [Nat.add_assoc]; exact k2, by rw [Nat.add_assoc]; exact k3⟩

end Go.Proofs.Ytheiboniifijnaa
