/- A list of numbers that came in, opened: what a walk is told of it, and that each fits 64 bits. -/
import Derived.Test.YtheiboniifijnaaAr
import Derived.Deep.Slices
import Derived.Lib.SmallJoins
import Derived.OpenShut
namespace Go.Proofs.Ytheiboniifijnaa
open Go.ChangeShapes Go.WideShapes Go.ChangeAt Go.RowKit Go.Joins Go.Deep W

theorem cellsI : Try.prog.cellsOf 3 = 1 := by kernel_rfl

/-- A list of numbers that came in, each of which fits 64 bits. -/
def IsInts (w : World) (ad : Option Addr) (n : Nat) (S : Nat → Int) : Prop :=
  (0 < n → ∃ b o, ad = some ⟨b, o, none⟩ ∧ b < w.heap.size ∧ ∀ i, i < n → w.cell? ⟨b, o + i, none⟩ = some (.int .i64 (S i))) ∧ ∀ i, i < n → -9223372036854775808 ≤ S i ∧ S i ≤ 9223372036854775807

theorem open_ints2 {H : Type} {enc : TypeId × Value → H} {W : World} {sp : Nat → Bool} {held : Bool} {fuel len cap : Nat} {ad : Option Addr} {x : DataW H × List MemPlace}
    (hf : DataW.trod enc Try.prog W 0 sp held fuel 61 [.slice ad len cap] = some x) : ∃ S, IsInts W ad len S := by
  rcases open_slice Try.underlying61 hf with ⟨hcs, _⟩ | ⟨z, l, c, m, n, D, Pl, hcs, hb, hl, hm, hmm, _, hall⟩
  · simp at hcs
    obtain ⟨rfl, rfl, rfl⟩ := hcs
    exact ⟨fun _ => 0, fun h => by omega, fun i h => by omega⟩
  · simp at hcs
    obtain ⟨rfl, rfl, rfl⟩ := hcs
    have hlm : len ≤ m := by rw [hmm]; split <;> omega
    have key : ∀ i, i < len → ∃ s : Int, W.cell? (z.add i) = some (.int .i64 s) ∧ -9223372036854775808 ≤ s ∧ s ≤ 9223372036854775807 := by
      intro i hi
      obtain ⟨cs', h1, h2⟩ := hall i (by omega)
      rw [cellsI] at h1
      obtain ⟨_, _, hcell⟩ := World.cells?_some h1
      obtain ⟨a, rfl, _, wa⟩ := DataW.trod_int Try.underlying3 h2
      refine ⟨a, ?_, bounds_i64 wa⟩
      have := hcell 0 (by omega); rw [add_add] at this; simpa using this
    obtain ⟨S, hS⟩ := choose_lt key
    refine ⟨S, fun hp => ?_, fun i hi => (hS i hi).2⟩
    obtain ⟨b, o, spot⟩ := z
    have h0 := (hS 0 hp).1
    have hspot : spot = none := by simpa [Addr.add] using World.cell?_spot h0
    subst hspot
    refine ⟨b, o, rfl, World.block_lt_of_cell? W (⟨b, o, none⟩ : Addr) (by simpa [Addr.add] using h0), fun i hi => ?_⟩
    have k0 := (hS i hi).1
    have ea : ∀ j, (⟨b, o, none⟩ : Addr).add j = ⟨b, o + j, none⟩ := fun j => by simp [Addr.add]
    rw [ea] at k0
    exact k0

end Go.Proofs.Ytheiboniifijnaa
