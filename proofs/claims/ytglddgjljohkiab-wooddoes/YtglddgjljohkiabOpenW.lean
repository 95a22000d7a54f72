/- Steps of a wood that came in: a list of five numbers each. -/
import Derived.Test.YtglddgjljohkiabJf
import Derived.Lib.SmallJoins
namespace Go.Proofs.Ytglddgjljohkiab
open Go.ChangeShapes Go.WideShapes Go.ChangeAt Go.RowKit Go.Joins Go.Deep W Stl

theorem cellsStepW : Try.prog.cellsOf 52 = 5 := by kernel_rfl
theorem cellsIW : Try.prog.cellsOf 3 = 1 := by kernel_rfl
theorem cellsLW : Try.prog.cellsOf 2 = 1 := by kernel_rfl

/-- A step: what to do, and what with. -/
abbrev S5 := Int × Int × Int × Int × Int
/-- A number of 64 bits. -/
def I64 (a : Int) : Prop := -9223372036854775808 ≤ a ∧ a ≤ 9223372036854775807
/-- Steps that may be read. -/
def L5 (w : World) (ad : Option Addr) (l : List S5) : Prop :=
  0 < l.length → ∃ b o, ad = some ⟨b, o, none⟩ ∧ b < w.heap.size ∧ ∀ i, i < l.length → (w.cell? ⟨b, o + i * 5, none⟩ = some (.int .i64 (l.getD i (0, 0, 0, 0, 0)).1) ∧ w.cell? ⟨b, o + i * 5 + 1, none⟩ = some (.int .i64 (l.getD i (0, 0, 0, 0, 0)).2.1) ∧ w.cell? ⟨b, o + i * 5 + 2, none⟩ = some (.int .i64 (l.getD i (0, 0, 0, 0, 0)).2.2.1) ∧ w.cell? ⟨b, o + i * 5 + 3, none⟩ = some (.int .i64 (l.getD i (0, 0, 0, 0, 0)).2.2.2.1) ∧ w.cell? ⟨b, o + i * 5 + 4, none⟩ = some (.int .i64 (l.getD i (0, 0, 0, 0, 0)).2.2.2.2)) ∧
    I64 (l.getD i (0, 0, 0, 0, 0)).2.1 ∧ I64 (l.getD i (0, 0, 0, 0, 0)).2.2.2.1

theorem trod_struct5 {H : Type} {enc : TypeId × Value → H} {P : Program} {w : World} {base : Nat} {spare : Nat → Bool} {held : Bool} {t : TypeId} {f0 f1 f2 f3 f4 : Field} {fuel : Nat} {cs : List Value} {x : DataW H × List MemPlace} (ht : P.underlying t = some (.struct #[f0, f1, f2, f3, f4])) (h : DataW.trod enc P w base spare held fuel t cs = some x) :
    ∃ y0 y1 y2 y3 y4 n, cs.length = P.cellsOf t ∧ DataW.trod enc P w base spare held n f0.type ((cs.drop f0.offset).take (P.cellsOf f0.type)) = some y0 ∧
      DataW.trod enc P w base spare held n f1.type ((cs.drop f1.offset).take (P.cellsOf f1.type)) = some y1 ∧ DataW.trod enc P w base spare held n f2.type ((cs.drop f2.offset).take (P.cellsOf f2.type)) = some y2 ∧
      DataW.trod enc P w base spare held n f3.type ((cs.drop f3.offset).take (P.cellsOf f3.type)) = some y3 ∧ DataW.trod enc P w base spare held n f4.type ((cs.drop f4.offset).take (P.cellsOf f4.type)) = some y4 := by
  obtain ⟨xs, n, _, rfl, hl, hlen, hf⟩ := DataW.trod_struct ht h
  match xs, hlen with
  | [y0, y1, y2, y3, y4], _ => exact ⟨y0, y1, y2, y3, y4, n, hl, by simpa using hf 0 f0 rfl, by simpa using hf 1 f1 rfl, by simpa using hf 2 f2 rfl, by simpa using hf 3 f3 rfl, by simpa using hf 4 f4 rfl⟩

theorem list5 {α : Type} {cs : List α} (h : cs.length = 5) : ∃ c0 c1 c2 c3 c4, cs = [c0, c1, c2, c3, c4] := by
  match cs, h with
  | [c0, c1, c2, c3, c4], _ => exact ⟨c0, c1, c2, c3, c4, rfl⟩

theorem bounds64 {a : Int} (h : (Lit.int .i64 a).wf = true) : I64 a := by
  have : IntKind.i64.min ≤ a ∧ a ≤ 9223372036854775807 := by simpa [Lit.wf] using h
  exact ⟨this.1, this.2⟩

set_option maxRecDepth 100000 in
theorem open_step5 {H : Type} {enc : TypeId × Value → H} {W : World} {sp : Nat → Bool} {held : Bool} {fuel : Nat} {cs : List Value} {x : DataW H × List MemPlace}
    (hf : DataW.trod enc Try.prog W 0 sp held fuel 52 cs = some x) : ∃ d a b c e : Int, cs = [.int .i64 d, .int .i64 a, .int .i64 b, .int .i64 c, .int .i64 e] ∧ I64 a ∧ I64 c := by
  obtain ⟨y0, y1, y2, y3, y4, n, hl, t0, t1, t2, t3, t4⟩ := trod_struct5 Try.underlying52 hf
  rw [cellsStepW] at hl
  obtain ⟨c0, c1, c2, c3, c4, rfl⟩ := list5 hl
  obtain ⟨d, ed, _⟩ := DataW.trod_int Try.underlying3 t0
  obtain ⟨a, ea, _, wa⟩ := DataW.trod_int Try.underlying3 t1
  obtain ⟨b, eb, _⟩ := DataW.trod_int Try.underlying3 t2
  obtain ⟨c, ec, _, wc⟩ := DataW.trod_int Try.underlying3 t3
  obtain ⟨e, ee, _⟩ := DataW.trod_int Try.underlying2 t4
  simp [cellsIW] at ed ea eb ec
  simp [cellsLW] at ee
  exact ⟨d, a, b, c, e, by rw [ed, ea, eb, ec, ee], bounds64 wa, bounds64 wc⟩

set_option maxRecDepth 100000 in
theorem open_woods {H : Type} {enc : TypeId × Value → H} {W : World} {sp : Nat → Bool} {held : Bool} {fuel len cap : Nat} {ad : Option Addr} {x : DataW H × List MemPlace}
    (hf : DataW.trod enc Try.prog W 0 sp held fuel 41 [.slice ad len cap] = some x) : ∃ l : List S5, l.length = len ∧ L5 W ad l := by
  rcases open_slice Try.underlying41 hf with ⟨hcs, _⟩ | ⟨z, l, c, m, n, D, Pl, hcs, hb, hl, hm, hmm, _, hall⟩
  · simp at hcs
    obtain ⟨rfl, rfl, rfl⟩ := hcs
    exact ⟨[], rfl, fun h => by simp at h⟩
  · simp at hcs
    obtain ⟨rfl, rfl, rfl⟩ := hcs
    have hlm : len ≤ m := by rw [hmm]; split <;> omega
    have key : ∀ i, i < len → ∃ s : S5, (W.cell? (z.add (i * 5)) = some (.int .i64 s.1) ∧ W.cell? (z.add (i * 5 + 1)) = some (.int .i64 s.2.1) ∧ W.cell? (z.add (i * 5 + 2)) = some (.int .i64 s.2.2.1) ∧ W.cell? (z.add (i * 5 + 3)) = some (.int .i64 s.2.2.2.1) ∧ W.cell? (z.add (i * 5 + 4)) = some (.int .i64 s.2.2.2.2)) ∧ I64 s.2.1 ∧ I64 s.2.2.2.1 := by
      intro i hi
      obtain ⟨cs', h1, h2⟩ := hall i (by omega)
      rw [cellsStepW] at h1
      obtain ⟨_, _, hcell⟩ := World.cells?_some h1
      obtain ⟨d, a, b, c, e, rfl, ha, hc⟩ := open_step5 h2
      refine ⟨(d, a, b, c, e), ⟨?_, ?_, ?_, ?_, ?_⟩, ha, hc⟩
      · have := hcell 0 (by omega); rw [add_add] at this; simpa using this
      · have := hcell 1 (by omega); rw [add_add] at this; simpa using this
      · have := hcell 2 (by omega); rw [add_add] at this; simpa using this
      · have := hcell 3 (by omega); rw [add_add] at this; simpa using this
      · have := hcell 4 (by omega); rw [add_add] at this; simpa using this
    obtain ⟨S, hS⟩ := choose_lt key
    refine ⟨(List.range len).map S, by simp, fun hp => ?_⟩
    simp only [List.length_map, List.length_range] at hp ⊢
    obtain ⟨b, o, spot⟩ := z
    have h0 := (hS 0 hp).1.1
    have hspot : spot = none := by simpa [Addr.add] using World.cell?_spot h0
    subst hspot
    refine ⟨b, o, rfl, World.block_lt_of_cell? W (⟨b, o, none⟩ : Addr) (by simpa [Addr.add] using h0), fun i hi => ?_⟩
    obtain ⟨⟨k0, k1, k2, k3, k4⟩, k5⟩ := hS i hi
    have ea : ∀ j, (⟨b, o, none⟩ : Addr).add j = ⟨b, o + j, none⟩ := fun j => by simp [Addr.add]
    rw [ea] at k0 k1 k2 k3 k4
    have eg : ((List.range len).map S).getD i (0, 0, 0, 0, 0) = S i := by simp [hi]
    rw [eg]
    exact ⟨⟨k0, by rw [Nat.add_assoc]; exact k1, by rw [Nat.add_assoc]; exact k2, by rw [Nat.add_assoc]; exact k3, by rw [Nat.add_assoc]; exact k4⟩, k5⟩

end Go.Proofs.Ytglddgjljohkiab
