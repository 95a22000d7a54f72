/- Steps of a heap that came in: a list of six numbers each. -/
import Derived.Test.YtjhnhbeimjnloaaJ04
import Derived.Lib.SmallJoins
namespace Go.Proofs.Ytjhnhbeimjnloaa
open Go.ChangeShapes Go.WideShapes Go.ChangeAt Go.RowKit Go.Joins Go.Deep W Stl

theorem cellsStepZ : Try.prog.cellsOf 30 = 6 := by kernel_rfl
theorem cellsIZ : Try.prog.cellsOf 3 = 1 := by kernel_rfl
theorem cellsLZ : Try.prog.cellsOf 2 = 1 := by kernel_rfl

structure S6 where
  k : Int
  R : Int
  A : Int
  B : Int
  I : Int
  n : Int
def s60 : S6 := ⟨0, 0, 0, 0, 0, 0⟩
def K64 (a : Int) : Prop := -9223372036854775808 ≤ a ∧ a ≤ 9223372036854775807
structure C6 (w : World) (b o : Nat) (s : S6) : Prop where
  c0 : w.cell? ⟨b, o, none⟩ = some (.int .i64 s.k)
  c1 : w.cell? ⟨b, o + 1, none⟩ = some (.int .i64 s.R)
  c2 : w.cell? ⟨b, o + 2, none⟩ = some (.int .i64 s.A)
  c3 : w.cell? ⟨b, o + 3, none⟩ = some (.int .i64 s.B)
  c4 : w.cell? ⟨b, o + 4, none⟩ = some (.int .i64 s.I)
  c5 : w.cell? ⟨b, o + 5, none⟩ = some (.int .i64 s.n)
theorem C6.below {w w' : World} {b o B : Nat} {s : S6} (h : C6 w b o s) (hb : Below B w w') (hB : b < B) : C6 w' b o s :=
  ⟨(hb.cell (p := ⟨b, o, none⟩) hB).trans h.c0, (hb.cell (p := ⟨b, o + 1, none⟩) hB).trans h.c1, (hb.cell (p := ⟨b, o + 2, none⟩) hB).trans h.c2, (hb.cell (p := ⟨b, o + 3, none⟩) hB).trans h.c3, (hb.cell (p := ⟨b, o + 4, none⟩) hB).trans h.c4, (hb.cell (p := ⟨b, o + 5, none⟩) hB).trans h.c5⟩
def L6 (w : World) (ad : Option Addr) (l : List S6) : Prop :=
  0 < l.length → ∃ b o, ad = some ⟨b, o, none⟩ ∧ b < w.heap.size ∧ ∀ i, i < l.length → C6 w b (o + i * 6) (l.getD i s60) ∧ K64 (l.getD i s60).k ∧ K64 (l.getD i s60).R ∧ K64 (l.getD i s60).A ∧ K64 (l.getD i s60).B ∧ K64 (l.getD i s60).I ∧ K64 (l.getD i s60).n

theorem list6z {α : Type} {cs : List α} (h : cs.length = 6) : ∃ c0 c1 c2 c3 c4 c5, cs = [c0, c1, c2, c3, c4, c5] := by
  match cs, h with
  | [c0, c1, c2, c3, c4, c5], _ => exact ⟨c0, c1, c2, c3, c4, c5, rfl⟩
theorem kbnd {a : Int} (h : (Lit.int .i64 a).wf = true) : K64 a := by
  have : IntKind.i64.min ≤ a ∧ a ≤ 9223372036854775807 := by simpa [Lit.wf] using h
  exact ⟨this.1, this.2⟩

set_option maxRecDepth 100000 in
theorem open_step6 {H : Type} {enc : TypeId × Value → H} {W : World} {sp : Nat → Bool} {held : Bool} {fuel : Nat} {cs : List Value} {x : DataW H × List MemPlace}
    (hf : DataW.trod enc Try.prog W 0 sp held fuel 30 cs = some x) : ∃ s : S6, cs = [.int .i64 s.k, .int .i64 s.R, .int .i64 s.A, .int .i64 s.B, .int .i64 s.I, .int .i64 s.n] ∧ K64 s.k ∧ K64 s.R ∧ K64 s.A ∧ K64 s.B ∧ K64 s.I ∧ K64 s.n := by
  obtain ⟨xs, m, _, hx, hl, hlen, hg⟩ := DataW.trod_struct Try.underlying30 hf
  rw [cellsStepZ] at hl
  obtain ⟨c0, c1, c2, c3, c4, c5, rfl⟩ := list6z hl
  match xs, hlen with
  | [y0, y1, y2, y3, y4, y5], _ =>
    have t0 := hg 0 _ rfl
    have t1 := hg 1 _ rfl
    have t2 := hg 2 _ rfl
    have t3 := hg 3 _ rfl
    have t4 := hg 4 _ rfl
    have t5 := hg 5 _ rfl
    simp [cellsIZ, cellsLZ] at t0 t1 t2 t3 t4 t5
    obtain ⟨k, e0, _, w0⟩ := DataW.trod_int Try.underlying3 t0
    obtain ⟨R, e1, _, w1⟩ := DataW.trod_int Try.underlying3 t1
    obtain ⟨A, e2, _, w2⟩ := DataW.trod_int Try.underlying3 t2
    obtain ⟨B, e3, _, w3⟩ := DataW.trod_int Try.underlying3 t3
    obtain ⟨I, e4, _, w4⟩ := DataW.trod_int Try.underlying3 t4
    obtain ⟨n, e5, _, w5⟩ := DataW.trod_int Try.underlying2 t5
    simp at e0 e1 e2 e3 e4 e5
    exact ⟨⟨k, R, A, B, I, n⟩, by rw [e0, e1, e2, e3, e4, e5], kbnd w0, kbnd w1, kbnd w2, kbnd w3, kbnd w4, kbnd w5⟩

set_option maxRecDepth 100000 in
theorem open_heaps {H : Type} {enc : TypeId × Value → H} {W : World} {sp : Nat → Bool} {held : Bool} {fuel len cap : Nat} {ad : Option Addr} {x : DataW H × List MemPlace}
    (hf : DataW.trod enc Try.prog W 0 sp held fuel 22 [.slice ad len cap] = some x) : ∃ l : List S6, l.length = len ∧ L6 W ad l := by
  rcases open_slice Try.underlying22 hf with ⟨hcs, _⟩ | ⟨z, l, c, m, n, D, Pl, hcs, hb, hl, hm, hmm, _, hall⟩
  · simp at hcs
    obtain ⟨rfl, rfl, rfl⟩ := hcs
    exact ⟨[], rfl, fun h => by simp at h⟩
  · simp at hcs
    obtain ⟨rfl, rfl, rfl⟩ := hcs
    have hlm : len ≤ m := by rw [hmm]; split <;> omega
    have key : ∀ i, i < len → ∃ s : S6, (W.cell? (z.add (i * 6)) = some (.int .i64 s.k) ∧ W.cell? (z.add (i * 6 + 1)) = some (.int .i64 s.R) ∧ W.cell? (z.add (i * 6 + 2)) = some (.int .i64 s.A) ∧ W.cell? (z.add (i * 6 + 3)) = some (.int .i64 s.B) ∧ W.cell? (z.add (i * 6 + 4)) = some (.int .i64 s.I) ∧ W.cell? (z.add (i * 6 + 5)) = some (.int .i64 s.n)) ∧ K64 s.k ∧ K64 s.R ∧ K64 s.A ∧ K64 s.B ∧ K64 s.I ∧ K64 s.n := by
      intro i hi
      obtain ⟨cs', h1, h2⟩ := hall i (by omega)
      rw [cellsStepZ] at h1
      obtain ⟨_, _, hcell⟩ := World.cells?_some h1
      obtain ⟨s, rfl, hb⟩ := open_step6 h2
      refine ⟨s, ⟨?_, ?_, ?_, ?_, ?_, ?_⟩, hb⟩
      · have := hcell 0 (by omega); rw [add_add] at this; simpa using this
      · have := hcell 1 (by omega); rw [add_add] at this; simpa using this
      · have := hcell 2 (by omega); rw [add_add] at this; simpa using this
      · have := hcell 3 (by omega); rw [add_add] at this; simpa using this
      · have := hcell 4 (by omega); rw [add_add] at this; simpa using this
      · have := hcell 5 (by omega); rw [add_add] at this; simpa using this
    have : Inhabited S6 := ⟨s60⟩
    obtain ⟨S, hS⟩ := choose_lt key
    refine ⟨(List.range len).map S, by simp, fun hp => ?_⟩
    simp only [List.length_map, List.length_range] at hp ⊢
    obtain ⟨b, o, spot⟩ := z
    have h0 := (hS 0 hp).1.1
    have hspot : spot = none := by simpa [Addr.add] using World.cell?_spot h0
    subst hspot
    refine ⟨b, o, rfl, World.block_lt_of_cell? W (⟨b, o, none⟩ : Addr) (by simpa [Addr.add] using h0), fun i hi => ?_⟩
    obtain ⟨⟨k0, k1, k2, k3, k4, k5⟩, k6⟩ := hS i hi
    have ea : ∀ j, (⟨b, o, none⟩ : Addr).add j = ⟨b, o + j, none⟩ := fun j => by simp [Addr.add]
    rw [ea] at k0 k1 k2 k3 k4 k5
    have eg : ((List.range len).map S).getD i s60 = S i := by simp [hi]
    rw [eg]
    exact ⟨⟨k0, by rw [Nat.add_assoc]; exact k1, by rw [Nat.add_assoc]; exact k2, by rw [Nat.add_assoc]; exact k3, by rw [Nat.add_assoc]; exact k4, by rw [Nat.add_assoc]; exact k5⟩, k6⟩

end Go.Proofs.Ytjhnhbeimjnloaa
