/- A step by value that came in: six numbers. -/
import Derived.Test.YtakofbkmhmcnfabGreatJ04
import Derived.Lib.SmallJoins
namespace Go.Proofs.YtakofbkmhmcnfabGreat
open Go.ChangeShapes Go.WideShapes Go.ChangeAt Go.RowKit Go.Joins Go.Deep W Stl

theorem cellsStepX : Tryz.prog.cellsOf 78 = 6 := by kernel_rfl
theorem cellsIX : Tryz.prog.cellsOf 3 = 1 := by kernel_rfl
theorem cellsLX : Tryz.prog.cellsOf 2 = 1 := by kernel_rfl

theorem list6 {α : Type} {cs : List α} (h : cs.length = 6) : ∃ c0 c1 c2 c3 c4 c5, cs = [c0, c1, c2, c3, c4, c5] := by
  match cs, h with
  | [c0, c1, c2, c3, c4, c5], _ => exact ⟨c0, c1, c2, c3, c4, c5, rfl⟩

set_option maxRecDepth 100000 in
theorem open_stepX {H : Type} {enc : TypeId × Value → H} {W : World} {r : Reach} {b0 base : Nat} {sp : Nat → Bool} {held : Bool} {v : Value} {d : DataW H} {p : List MemPlace}
    (hv : Value.okWide Tryz.prog W r b0 78 v) (h : DataW.Trod enc Tryz.prog W base sp held 78 v d p) :
    ∃ k R A B I n : Int, v = .agg #[.int .i64 k, .int .i64 R, .int .i64 A, .int .i64 B, .int .i64 I, .int .i64 n] ∧ d = .agg [.lit (.int .i64 k), .lit (.int .i64 R), .lit (.int .i64 A), .lit (.int .i64 B), .lit (.int .i64 I), .lit (.int .i64 n)] ∧ p = [] ∧
      (Lit.int .i64 k).wf = true ∧ (Lit.int .i64 R).wf = true ∧ (Lit.int .i64 A).wf = true ∧ (Lit.int .i64 B).wf = true ∧ (Lit.int .i64 I).wf = true ∧ (Lit.int .i64 n).wf = true := by
  obtain ⟨cs, rfl, hsz⟩ := okWide_struct Tryz.underlying78 hv
  obtain ⟨l⟩ := cs
  rw [cellsStepX] at hsz
  obtain ⟨c0, c1, c2, c3, c4, c5, rfl⟩ := list6 (by simpa using hsz)
  obtain ⟨fuel, hf⟩ := h
  obtain ⟨xs, m, _, hx, hl, hlen, hg⟩ := DataW.trod_struct Tryz.underlying78 hf
  match xs, hlen with
  | [y0, y1, y2, y3, y4, y5], _ =>
    have t0 := hg 0 _ rfl
    have t1 := hg 1 _ rfl
    have t2 := hg 2 _ rfl
    have t3 := hg 3 _ rfl
    have t4 := hg 4 _ rfl
    have t5 := hg 5 _ rfl
    simp [cellsIX, cellsLX, Value.cells] at t0 t1 t2 t3 t4 t5
    obtain ⟨k, e0, f0, w0⟩ := DataW.trod_int Tryz.underlying3 t0
    obtain ⟨R, e1, f1, w1⟩ := DataW.trod_int Tryz.underlying3 t1
    obtain ⟨A, e2, f2, w2⟩ := DataW.trod_int Tryz.underlying3 t2
    obtain ⟨B, e3, f3, w3⟩ := DataW.trod_int Tryz.underlying3 t3
    obtain ⟨I, e4, f4, w4⟩ := DataW.trod_int Tryz.underlying3 t4
    obtain ⟨n, e5, f5, w5⟩ := DataW.trod_int Tryz.underlying2 t5
    simp at e0 e1 e2 e3 e4 e5
    subst e0 e1 e2 e3 e4 e5 f0 f1 f2 f3 f4 f5
    simp at hx
    exact ⟨k, R, A, B, I, n, rfl, hx.1, hx.2, w0, w1, w2, w3, w4, w5⟩

set_option maxRecDepth 100000 in
/-- A step by value reads, in whatever memory, as its six numbers. -/
theorem stepReads {H : Type} (enc : TypeId × Value → H) (k R A B I n : Int) (w0 : (Lit.int .i64 k).wf = true) (w1 : (Lit.int .i64 R).wf = true) (w2 : (Lit.int .i64 A).wf = true) (w3 : (Lit.int .i64 B).wf = true) (w4 : (Lit.int .i64 I).wf = true) (w5 : (Lit.int .i64 n).wf = true) (W' : World) (sp : Nat → Bool) :
    DataW.Trod enc Tryz.prog W' 0 sp true 78 (.agg #[.int .i64 k, .int .i64 R, .int .i64 A, .int .i64 B, .int .i64 I, .int .i64 n]) (.agg [.lit (.int .i64 k), .lit (.int .i64 R), .lit (.int .i64 A), .lit (.int .i64 B), .lit (.int .i64 I), .lit (.int .i64 n)]) [] := by
  have g : ∀ (a : Int), (Lit.int .i64 a).wf = true → DataW.trod enc Tryz.prog W' 0 sp true 1 3 [.int .i64 a] = some (.lit (.int .i64 a), []) := fun a wa => by simp [DataW.trod, Tryz.underlying3, wa]
  have g2 : ∀ (a : Int), (Lit.int .i64 a).wf = true → DataW.trod enc Tryz.prog W' 0 sp true 1 2 [.int .i64 a] = some (.lit (.int .i64 a), []) := fun a wa => by simp [DataW.trod, Tryz.underlying2, wa]
  have ts := trod_struct_mk (enc := enc) (w := W') (base := 0) (spare := sp) (held := true) (n := 1) (cs := [.int .i64 k, .int .i64 R, .int .i64 A, .int .i64 B, .int .i64 I, .int .i64 n]) (xs := [(.lit (.int .i64 k), []), (.lit (.int .i64 R), []), (.lit (.int .i64 A), []), (.lit (.int .i64 B), []), (.lit (.int .i64 I), []), (.lit (.int .i64 n), [])]) Tryz.underlying78 (by simp [cellsStepX]) (by simp [cellsIX, cellsLX, g _ w0, g _ w1, g _ w2, g _ w3, g _ w4, g2 _ w5])
  exact ⟨2, by simpa [Value.cells] using ts⟩

end Go.Proofs.YtakofbkmhmcnfabGreat
