/- Lists of entries, of words, of pairs of words that came in, opened: what a walk is told of them. -/
import Derived.Test.YthlfgddhkffilaaSd1
import Derived.Deep.Slices
import Derived.Lib.SmallJoins
import Derived.OpenShut
namespace Go.Proofs.Ythlfgddhkffilaa
open Go.ChangeShapes Go.WideShapes Go.ChangeAt Go.RowKit Go.Joins Go.Deep W Stl

theorem cellsEn : Try.prog.cellsOf 84 = 2 := by kernel_rfl
theorem cellsTwo : Try.prog.cellsOf 137 = 2 := by kernel_rfl
theorem cellsLong : Try.prog.cellsOf 2 = 1 := by kernel_rfl

set_option maxRecDepth 100000 in
theorem open_en {H : Type} {enc : TypeId × Value → H} {W : World} {sp : Nat → Bool} {held : Bool} {fuel : Nat} {cs : List Value} {x : DataW H × List MemPlace}
    (hf : DataW.trod enc Try.prog W 0 sp held fuel 84 cs = some x) : ∃ a b : Int, cs = [.int .i64 a, .int .i64 b] := by
  obtain ⟨y0, y1, n, _, hl, t0, t1⟩ := trod_struct2 Try.underlying84 hf
  rw [cellsEn] at hl
  match cs, hl with
  | [c0, c1], _ =>
    obtain ⟨a, ea, _⟩ := DataW.trod_int Try.underlying2 t0
    obtain ⟨b, eb, _⟩ := DataW.trod_int Try.underlying2 t1
    simp [cellsLong] at ea eb
    exact ⟨a, b, by rw [ea, eb]⟩
set_option maxRecDepth 100000 in
theorem open_two {H : Type} {enc : TypeId × Value → H} {W : World} {sp : Nat → Bool} {held : Bool} {fuel : Nat} {cs : List Value} {x : DataW H × List MemPlace}
    (hf : DataW.trod enc Try.prog W 0 sp held fuel 137 cs = some x) : ∃ a b : Int, cs = [.int .i64 a, .int .i64 b] := by
  obtain ⟨xs, m, _, _, hl, hx, hel⟩ := DataW.trod_array Try.underlying137 hf
  rw [cellsTwo] at hl
  match cs, hl with
  | [c0, c1], _ =>
    have e0 := hel 0 (by decide)
    have e1 := hel 1 (by decide)
    rw [cellsLong, List.getElem?_eq_getElem (by omega)] at e0 e1
    obtain ⟨a, ea, _⟩ := DataW.trod_int Try.underlying2 e0
    obtain ⟨b, eb, _⟩ := DataW.trod_int Try.underlying2 e1
    simp at ea eb
    exact ⟨a, b, by rw [ea, eb]⟩

set_option maxRecDepth 100000 in
theorem open_twos {H : Type} {enc : TypeId × Value → H} {W : World} {sp : Nat → Bool} {held : Bool} {fuel len cap : Nat} {ad : Option Addr} {x : DataW H × List MemPlace} {T E : TypeId} (ht : Try.prog.underlying T = some (.slice E)) (hc2 : Try.prog.cellsOf E = 2)
    (he : ∀ (fuel : Nat) (cs : List Value) (x : DataW H × List MemPlace), DataW.trod enc Try.prog W 0 sp held fuel E cs = some x → ∃ a b : Int, cs = [.int .i64 a, .int .i64 b])
    (hf : DataW.trod enc Try.prog W 0 sp held fuel T [.slice ad len cap] = some x) : ∃ l : List En, l.length = len ∧ Li W ad l cap := by
  rcases open_slice ht hf with ⟨hcs, _⟩ | ⟨z, l, c, m, n, D, Pl, hcs, hb, hl, hm, hmm, _, hall⟩
  · simp at hcs
    obtain ⟨rfl, rfl, rfl⟩ := hcs
    exact ⟨[], rfl, ⟨fun h => by simp at h, by simp, fun _ => ⟨rfl, rfl⟩⟩⟩
  · simp at hcs
    obtain ⟨rfl, rfl, rfl⟩ := hcs
    have hlm : len ≤ m := by rw [hmm]; split <;> omega
    have key : ∀ i, i < len → ∃ s : Int × Int, W.cell? (z.add (i * 2)) = some (.int .i64 s.1) ∧ W.cell? (z.add (i * 2 + 1)) = some (.int .i64 s.2) := by
      intro i hi
      obtain ⟨cs', h1, h2⟩ := hall i (by omega)
      rw [hc2] at h1
      obtain ⟨_, _, hcell⟩ := World.cells?_some h1
      obtain ⟨a, b, rfl⟩ := he _ _ _ h2
      refine ⟨(a, b), ?_, ?_⟩
      · have := hcell 0 (by omega); rw [add_add] at this; simpa using this
      · have := hcell 1 (by omega); rw [add_add] at this; simpa using this
    obtain ⟨S, hS⟩ := choose_lt key
    refine ⟨(List.range len).map S, by simp, ⟨fun hp => ?_, by simpa using hl, fun h => by cases h⟩⟩
    simp only [List.length_map, List.length_range] at hp ⊢
    obtain ⟨b, o, spot⟩ := z
    have h0 := (hS 0 hp).1
    have hspot : spot = none := by simpa [Addr.add] using World.cell?_spot h0
    subst hspot
    refine ⟨b, o, rfl, World.block_lt_of_cell? W (⟨b, o, none⟩ : Addr) (by simpa [Addr.add] using h0), fun i hi => ?_⟩
    obtain ⟨k0, k1⟩ := hS i hi
    have ea : ∀ j, (⟨b, o, none⟩ : Addr).add j = ⟨b, o + j, none⟩ := fun j => by simp [Addr.add]
    rw [ea] at k0 k1
    have eg : ((List.range len).map S).getD i (0, 0) = S i := by simp [hi]
    rw [eg]
    exact ⟨k0, by rw [Nat.add_assoc]; exact k1⟩

theorem open_entries {H : Type} {enc : TypeId × Value → H} {W : World} {sp : Nat → Bool} {held : Bool} {fuel len cap : Nat} {ad : Option Addr} {x : DataW H × List MemPlace}
    (hf : DataW.trod enc Try.prog W 0 sp held fuel 80 [.slice ad len cap] = some x) : ∃ l : List En, l.length = len ∧ Li W ad l cap :=
  open_twos Try.underlying80 cellsEn (fun _ _ _ h => open_en h) hf
theorem open_leads {H : Type} {enc : TypeId × Value → H} {W : World} {sp : Nat → Bool} {held : Bool} {fuel len cap : Nat} {ad : Option Addr} {x : DataW H × List MemPlace}
    (hf : DataW.trod enc Try.prog W 0 sp held fuel 94 [.slice ad len cap] = some x) : ∃ l : List En, l.length = len ∧ Li W ad l cap :=
  open_twos Try.underlying94 cellsTwo (fun _ _ _ h => open_two h) hf

/-- Words that may be read: a slice, whatever its room. -/
structure Lw (w : World) (ad : Option Addr) (l : List Int) (cap : Nat) : Prop where
  ls : Ls w ad l
  le : l.length ≤ cap
  nil : ad = none → l.length = 0 ∧ cap = 0

set_option maxRecDepth 100000 in
theorem open_longs {H : Type} {enc : TypeId × Value → H} {W : World} {sp : Nat → Bool} {held : Bool} {fuel len cap : Nat} {ad : Option Addr} {x : DataW H × List MemPlace}
    (hf : DataW.trod enc Try.prog W 0 sp held fuel 54 [.slice ad len cap] = some x) : ∃ l : List Int, l.length = len ∧ Lw W ad l cap := by
  rcases open_slice Try.underlying54 hf with ⟨hcs, _⟩ | ⟨z, l, c, m, n, D, Pl, hcs, hb, hl, hm, hmm, _, hall⟩
  · simp at hcs
    obtain ⟨rfl, rfl, rfl⟩ := hcs
    exact ⟨[], rfl, ⟨fun h => by simp at h, by simp, fun _ => ⟨rfl, rfl⟩⟩⟩
  · simp at hcs
    obtain ⟨rfl, rfl, rfl⟩ := hcs
    have hlm : len ≤ m := by rw [hmm]; split <;> omega
    have key : ∀ i, i < len → ∃ s : Int, W.cell? (z.add i) = some (.int .i64 s) := by
      intro i hi
      obtain ⟨cs', h1, h2⟩ := hall i (by omega)
      rw [cellsLong] at h1
      obtain ⟨_, _, hcell⟩ := World.cells?_some h1
      obtain ⟨a, rfl, _⟩ := DataW.trod_int Try.underlying2 h2
      refine ⟨a, ?_⟩
      have := hcell 0 (by omega); rw [add_add] at this; simpa using this
    obtain ⟨S, hS⟩ := choose_lt key
    refine ⟨(List.range len).map S, by simp, ⟨fun hp => ?_, by simpa using hl, fun h => by cases h⟩⟩
    simp only [List.length_map, List.length_range] at hp ⊢
    obtain ⟨b, o, spot⟩ := z
    have h0 := hS 0 hp
    have hspot : spot = none := by simpa [Addr.add] using World.cell?_spot h0
    subst hspot
    refine ⟨b, o, rfl, World.block_lt_of_cell? W (⟨b, o, none⟩ : Addr) (by simpa [Addr.add] using h0), fun i hi => ?_⟩
    have k0 := hS i hi
    have ea : ∀ j, (⟨b, o, none⟩ : Addr).add j = ⟨b, o + j, none⟩ := fun j => by simp [Addr.add]
    rw [ea] at k0
    have eg : ((List.range len).map S).getD i 0 = S i := by simp [hi]
    rw [eg]
    exact k0

end Go.Proofs.Ythlfgddhkffilaa
