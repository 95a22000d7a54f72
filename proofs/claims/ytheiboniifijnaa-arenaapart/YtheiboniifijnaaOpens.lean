/- A list of steps, or of words, that came in, opened: what a walk is told of it. -/
import Derived.Test.YtheiboniifijnaaAr9
import Derived.Deep.Slices
import Derived.Lib.SmallJoins
namespace Go.Proofs.Ytheiboniifijnaa
open Go.ChangeShapes Go.WideShapes Go.ChangeAt Go.RowKit Go.Joins Go.Deep W

theorem cellsStep : Try.prog.cellsOf 49 = 4 := by kernel_rfl
theorem cellsInt : Try.prog.cellsOf 3 = 1 := by kernel_rfl
theorem cellsInt64 : Try.prog.cellsOf 2 = 1 := by kernel_rfl

set_option maxRecDepth 100000 in
theorem open_step {H : Type} {enc : TypeId × Value → H} {W : World} {sp : Nat → Bool} {held : Bool} {fuel : Nat} {cs : List Value} {x : DataW H × List MemPlace}
    (hf : DataW.trod enc Try.prog W 0 sp held fuel 49 cs = some x) : ∃ a b c d : Int, cs = [.int .i64 a, .int .i64 b, .int .i64 c, .int .i64 d] := by
  obtain ⟨y0, y1, y2, y3, n, _, hl, t0, t1, t2, t3⟩ := trod_struct4 Try.underlying49 hf
  rw [cellsStep] at hl
  match cs, hl with
  | [c0, c1, c2, c3], _ =>
    obtain ⟨a, ea, _⟩ := DataW.trod_int Try.underlying3 t0
    obtain ⟨b, eb, _⟩ := DataW.trod_int Try.underlying3 t1
    obtain ⟨c, ec, _⟩ := DataW.trod_int Try.underlying3 t2
    obtain ⟨d, ed, _⟩ := DataW.trod_int Try.underlying2 t3
    simp [cellsInt] at ea eb ec
    simp [cellsInt64] at ed
    exact ⟨a, b, c, d, by rw [ea, eb, ec, ed]⟩

set_option maxRecDepth 100000 in
theorem open_steps {H : Type} {enc : TypeId × Value → H} {W : World} {sp : Nat → Bool} {held : Bool} {fuel len cap : Nat} {ad : Option Addr} {x : DataW H × List MemPlace}
    (hf : DataW.trod enc Try.prog W 0 sp held fuel 39 [.slice ad len cap] = some x) : ∃ S, IsSteps W ad len S := by
  rcases open_slice Try.underlying39 hf with ⟨hcs, _⟩ | ⟨z, l, c, m, n, D, Pl, hcs, hb, hl, hm, hmm, _, hall⟩
  · simp at hcs
    obtain ⟨rfl, rfl, rfl⟩ := hcs
    exact ⟨fun _ => (0, 0, 0, 0), fun h => by omega⟩
  · simp at hcs
    obtain ⟨rfl, rfl, rfl⟩ := hcs
    have hlm : len ≤ m := by rw [hmm]; split <;> omega
    have key : ∀ i, i < len → ∃ s : Int × Int × Int × Int, W.cell? (z.add (i * 4)) = some (.int .i64 s.1) ∧ W.cell? (z.add (i * 4 + 1)) = some (.int .i64 s.2.1) ∧ W.cell? (z.add (i * 4 + 2)) = some (.int .i64 s.2.2.1) ∧ W.cell? (z.add (i * 4 + 3)) = some (.int .i64 s.2.2.2) := by
      intro i hi
      obtain ⟨cs', h1, h2⟩ := hall i (by omega)
      rw [cellsStep] at h1
      obtain ⟨_, _, hcell⟩ := World.cells?_some h1
      obtain ⟨a, b, c, d, rfl⟩ := open_step h2
      refine ⟨(a, b, c, d), ?_, ?_, ?_, ?_⟩
      · have := hcell 0 (by omega); rw [add_add] at this; simpa using this
      · have := hcell 1 (by omega); rw [add_add] at this; simpa using this
      · have := hcell 2 (by omega); rw [add_add] at this; simpa using this
      · have := hcell 3 (by omega); rw [add_add] at this; simpa using this
    obtain ⟨S, hS⟩ := choose_lt key
    refine ⟨S, fun hp => ?_⟩
    obtain ⟨b, o, spot⟩ := z
    have h0 := (hS 0 hp).1
    have hspot : spot = none := by simpa [Addr.add] using World.cell?_spot h0
    subst hspot
    refine ⟨b, o, rfl, World.block_lt_of_cell? W (⟨b, o, none⟩ : Addr) (by simpa [Addr.add] using h0), fun i hi => ?_⟩
    obtain ⟨k0, k1, k2, k3⟩ := hS i hi
    have ea : ∀ j, (⟨b, o, none⟩ : Addr).add j = ⟨b, o + j, none⟩ := fun j => by simp [Addr.add]
    rw [ea] at k0 k1 k2 k3
    exact ⟨k0, by rw [Nat.add_assoc]; exact k1, by rw [Nat.add_assoc]; exact k2, by rw [Nat.add_assoc]; exact k3⟩

/-- A list of words that came in. -/
def IsWords (w : World) (ad : Option Addr) (n : Nat) (S : Nat → Int) : Prop :=
  0 < n → ∃ b o, ad = some ⟨b, o, none⟩ ∧ b < w.heap.size ∧ ∀ i, i < n → w.cell? ⟨b, o + i, none⟩ = some (.int .i64 (S i))

set_option maxRecDepth 100000 in
theorem open_words {H : Type} {enc : TypeId × Value → H} {W : World} {sp : Nat → Bool} {held : Bool} {fuel len cap : Nat} {ad : Option Addr} {x : DataW H × List MemPlace}
    (hf : DataW.trod enc Try.prog W 0 sp held fuel 54 [.slice ad len cap] = some x) : ∃ S, IsWords W ad len S := by
  rcases open_slice Try.underlying54 hf with ⟨hcs, _⟩ | ⟨z, l, c, m, n, D, Pl, hcs, hb, hl, hm, hmm, _, hall⟩
  · simp at hcs
    obtain ⟨rfl, rfl, rfl⟩ := hcs
    exact ⟨fun _ => 0, fun h => by omega⟩
  · simp at hcs
    obtain ⟨rfl, rfl, rfl⟩ := hcs
    have hlm : len ≤ m := by rw [hmm]; split <;> omega
    have key : ∀ i, i < len → ∃ s : Int, W.cell? (z.add i) = some (.int .i64 s) := by
      intro i hi
      obtain ⟨cs', h1, h2⟩ := hall i (by omega)
      rw [cellsInt64] at h1
      obtain ⟨_, _, hcell⟩ := World.cells?_some h1
      obtain ⟨a, rfl, _⟩ := DataW.trod_int Try.underlying2 h2
      refine ⟨a, ?_⟩
      have := hcell 0 (by omega); rw [add_add] at this; simpa using this
    obtain ⟨S, hS⟩ := choose_lt key
    refine ⟨S, fun hp => ?_⟩
    obtain ⟨b, o, spot⟩ := z
    have h0 := hS 0 hp
    have hspot : spot = none := by simpa [Addr.add] using World.cell?_spot h0
    subst hspot
    refine ⟨b, o, rfl, World.block_lt_of_cell? W (⟨b, o, none⟩ : Addr) (by simpa [Addr.add] using h0), fun i hi => ?_⟩
    have k0 := hS i hi
    have ea : ∀ j, (⟨b, o, none⟩ : Addr).add j = ⟨b, o + j, none⟩ := fun j => by simp [Addr.add]
    rw [ea] at k0
    exact k0

end Go.Proofs.Ytheiboniifijnaa
