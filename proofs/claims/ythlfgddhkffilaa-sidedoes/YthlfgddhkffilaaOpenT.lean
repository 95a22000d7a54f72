/- Steps of a Side that came in: a list of a number and an entry each. -/
import Derived.Test.YthlfgddhkffilaaOpenE
namespace Go.Proofs.Ythlfgddhkffilaa
open Go.ChangeShapes Go.WideShapes Go.ChangeAt Go.RowKit Go.Joins Go.Deep W Stl

theorem cellsStepT : Try.prog.cellsOf 86 = 3 := by kernel_rfl
theorem cellsIT : Try.prog.cellsOf 3 = 1 := by kernel_rfl

/-- A step: what to do, a guardian and a thing. -/
abbrev S3 := Int × Int × Int
/-- Steps that may be read. -/
def Lt (w : World) (ad : Option Addr) (l : List S3) : Prop :=
  0 < l.length → ∃ b o, ad = some ⟨b, o, none⟩ ∧ b < w.heap.size ∧ ∀ i, i < l.length → w.cell? ⟨b, o + i * 3, none⟩ = some (.int .i64 (l.getD i (0, 0, 0)).1) ∧ w.cell? ⟨b, o + i * 3 + 1, none⟩ = some (.int .i64 (l.getD i (0, 0, 0)).2.1) ∧ w.cell? ⟨b, o + i * 3 + 2, none⟩ = some (.int .i64 (l.getD i (0, 0, 0)).2.2)

set_option maxRecDepth 100000 in
theorem open_step3 {H : Type} {enc : TypeId × Value → H} {W : World} {sp : Nat → Bool} {held : Bool} {fuel : Nat} {cs : List Value} {x : DataW H × List MemPlace}
    (hf : DataW.trod enc Try.prog W 0 sp held fuel 86 cs = some x) : ∃ d a b : Int, cs = [.int .i64 d, .int .i64 a, .int .i64 b] := by
  obtain ⟨y0, y1, n, _, hl, t0, t1⟩ := trod_struct2 Try.underlying86 hf
  rw [cellsStepT] at hl
  match cs, hl with
  | [c0, c1, c2], _ =>
    obtain ⟨d, ed, _⟩ := DataW.trod_int Try.underlying3 t0
    obtain ⟨a, b, eb⟩ := open_en t1
    simp [cellsIT, cellsEn] at ed eb
    exact ⟨d, a, b, by rw [ed, eb.1, eb.2]⟩

set_option maxRecDepth 100000 in
theorem open_sides {H : Type} {enc : TypeId × Value → H} {W : World} {sp : Nat → Bool} {held : Bool} {fuel len cap : Nat} {ad : Option Addr} {x : DataW H × List MemPlace}
    (hf : DataW.trod enc Try.prog W 0 sp held fuel 78 [.slice ad len cap] = some x) : ∃ l : List S3, l.length = len ∧ Lt W ad l := by
  rcases open_slice Try.underlying78 hf with ⟨hcs, _⟩ | ⟨z, l, c, m, n, D, Pl, hcs, hb, hl, hm, hmm, _, hall⟩
  · simp at hcs
    obtain ⟨rfl, rfl, rfl⟩ := hcs
    exact ⟨[], rfl, fun h => by simp at h⟩
  · simp at hcs
    obtain ⟨rfl, rfl, rfl⟩ := hcs
    have hlm : len ≤ m := by rw [hmm]; split <;> omega
    have key : ∀ i, i < len → ∃ s : S3, W.cell? (z.add (i * 3)) = some (.int .i64 s.1) ∧ W.cell? (z.add (i * 3 + 1)) = some (.int .i64 s.2.1) ∧ W.cell? (z.add (i * 3 + 2)) = some (.int .i64 s.2.2) := by
      intro i hi
      obtain ⟨cs', h1, h2⟩ := hall i (by omega)
      rw [cellsStepT] at h1
      obtain ⟨_, _, hcell⟩ := World.cells?_some h1
      obtain ⟨d, a, b, rfl⟩ := open_step3 h2
      refine ⟨(d, a, b), ?_, ?_, ?_⟩
      · have := hcell 0 (by omega); rw [add_add] at this; simpa using this
      · have := hcell 1 (by omega); rw [add_add] at this; simpa using this
      · have := hcell 2 (by omega); rw [add_add] at this; simpa using this
    obtain ⟨S, hS⟩ := choose_lt key
    refine ⟨(List.range len).map S, by simp, fun hp => ?_⟩
    simp only [List.length_map, List.length_range] at hp ⊢
    obtain ⟨b, o, spot⟩ := z
    have h0 := (hS 0 hp).1
    have hspot : spot = none := by simpa [Addr.add] using World.cell?_spot h0
    subst hspot
    refine ⟨b, o, rfl, World.block_lt_of_cell? W (⟨b, o, none⟩ : Addr) (by simpa [Addr.add] using h0), fun i hi => ?_⟩
    obtain ⟨k0, k1, k2⟩ := hS i hi
    have ea : ∀ j, (⟨b, o, none⟩ : Addr).add j = ⟨b, o + j, none⟩ := fun j => by simp [Addr.add]
    rw [ea] at k0 k1 k2
    have eg : ((List.range len).map S).getD i (0, 0, 0) = S i := by simp [hi]
    rw [eg]
    exact ⟨k0, by rw [Nat.add_assoc]; exact k1, by rw [Nat.add_assoc]; exact k2⟩

end Go.Proofs.Ythlfgddhkffilaa
