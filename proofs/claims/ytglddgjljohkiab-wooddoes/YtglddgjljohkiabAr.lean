/- An arena in memory: a struct of its own block, its words in another; what it is to leave all other blocks alone; lemmas on both. -/
import Derived.Test.YtglddgjljohkiabWords2
import Derived.Laws.CopyOwn
namespace Go.Proofs.Ytglddgjljohkiab
open Go.RowKit W

/-- An arena: its struct is the block p, its words the block q; N and O words of the nursery and the old space, y and g of them in use; the words are ws. -/
structure At (w : World) (p q N O y g : Nat) (ws : List Int) : Prop where
  hp : w.heap[p]? = some (.cells #[.slice (some ⟨q, 0, none⟩) (N + O) (N + O), .int .i64 0, .int .i64 N, .int .i64 y, .int .i64 N, .int .i64 O, .int .i64 g] 111 (0, 0))
  hq : w.heap[q]? = some (.cells (ws.map (Value.int .i64)).toArray 2 (0, 0))
  hl : ws.length = N + O
  hN : 16 ≤ N
  hN' : N ≤ 256
  hO : O ≤ 1024
  hy : y ≤ N
  hg : g ≤ O

/-- All blocks but p and q are as they were. -/
structure Sv (p q : Nat) (w w' : World) : Prop where
  os : w'.os = w.os
  tape : w'.tape = w.tape
  output : w'.output = w.output
  size : w.heap.size ≤ w'.heap.size
  block : ∀ k, k < w.heap.size → k ≠ p → k ≠ q → w'.heap[k]? = w.heap[k]?

theorem lt_of_some {w : World} {k : Nat} {o : Obj} (h : w.heap[k]? = some o) : k < w.heap.size := (Array.getElem?_eq_some_iff.1 h).1

theorem Sv.refl (p q : Nat) (w : World) : Sv p q w w := ⟨rfl, rfl, rfl, Nat.le_refl _, fun _ _ _ _ => rfl⟩
theorem Sv.trans {p q : Nat} {a b c : World} (h : Sv p q a b) (k : Sv p q b c) : Sv p q a c :=
  ⟨k.os.trans h.os, k.tape.trans h.tape, k.output.trans h.output, Nat.le_trans h.size k.size, fun i hi h1 h2 => (k.block i (Nat.lt_of_lt_of_le hi h.size) h1 h2).trans (h.block i hi h1 h2)⟩
theorem Sv.of {p q : Nat} {w w' : World} (h : Below w.heap.size w w') : Sv p q w w' := ⟨h.os, h.tape, h.output, h.size, fun k hk _ _ => h.block k hk⟩
theorem Sv.setp {p q : Nat} {w : World} (o : Nat) (v : Value) : Sv p q w (w.setCell ⟨p, o, none⟩ v) :=
  ⟨rfl, rfl, rfl, by simp [World.setCell], fun k _ h1 _ => Below.heap_setCell _ _ _ _ h1⟩
theorem Sv.setq {p q : Nat} {w : World} (o : Nat) (v : Value) : Sv p q w (w.setCell ⟨q, o, none⟩ v) :=
  ⟨rfl, rfl, rfl, by simp [World.setCell], fun k _ _ h2 => Below.heap_setCell _ _ _ _ h2⟩
theorem Sv.rowq {p q : Nat} {w : World} (cs : Array Value) : Sv p q w (w.setRow q cs) :=
  ⟨rfl, rfl, rfl, by simp [World.setRow], fun k _ _ h2 => setRow_other w q k cs h2⟩
theorem Sv.drew {p q : Nat} {a w : World} (h : Sv p q a w) : Sv p q a w.drew := ⟨h.os, h.tape, h.output, h.size, h.block⟩
theorem Sv.drewN {p q : Nat} {a w : World} (h : Sv p q a w) (n : Nat) : Sv p q a (w.drewN n) := h.trans (Sv.of (below_drewN (Below.refl _ _) n))
/-- What is left alone but two blocks of the call's own is as it was below the call's own. -/
theorem Sv.below {p q B : Nat} {w w' : World} (h : Sv p q w w') (hB : B ≤ w.heap.size) (hp : B ≤ p) (hq : B ≤ q) : Below B w w' :=
  ⟨h.os, h.tape, h.output, h.size, fun k hk => h.block k (by omega) (by omega) (by omega)⟩

theorem At.ltp {w : World} {p q N O y g : Nat} {ws : List Int} (h : At w p q N O y g ws) : p < w.heap.size := lt_of_some h.hp
theorem At.ltq {w : World} {p q N O y g : Nat} {ws : List Int} (h : At w p q N O y g ws) : q < w.heap.size := lt_of_some h.hq
theorem At.ne {w : World} {p q N O y g : Nat} {ws : List Int} (h : At w p q N O y g ws) : p ≠ q := by
  intro e
  have h1 := h.hp
  rw [e, h.hq] at h1
  simp at h1

/-- It is what it was where its blocks are. -/
theorem At.same {w w' : World} {p q N O y g : Nat} {ws : List Int} (h : At w p q N O y g ws) (ep : w'.heap[p]? = w.heap[p]?) (eq : w'.heap[q]? = w.heap[q]?) : At w' p q N O y g ws :=
  ⟨ep.trans h.hp, eq.trans h.hq, h.hl, h.hN, h.hN', h.hO, h.hy, h.hg⟩
theorem At.below {w w' : World} {p q N O y g B : Nat} {ws : List Int} (h : At w p q N O y g ws) (hb : Below B w w') (hB : w.heap.size ≤ B) : At w' p q N O y g ws :=
  h.same (hb.block p (Nat.lt_of_lt_of_le h.ltp hB)) (hb.block q (Nat.lt_of_lt_of_le h.ltq hB))
theorem At.alloc {w : World} {p q N O y g : Nat} {ws : List Int} (h : At w p q N O y g ws) (o : Obj) : At (w.alloc o) p q N O y g ws :=
  h.same (Below.heap_alloc _ _ _ h.ltp) (Below.heap_alloc _ _ _ h.ltq)
theorem At.drew {w : World} {p q N O y g : Nat} {ws : List Int} (h : At w p q N O y g ws) : At w.drew p q N O y g ws := h.same rfl rfl
theorem At.sv {w w' : World} {p q N O y g p' q' : Nat} {ws : List Int} (h : At w p q N O y g ws) (s : Sv p' q' w w') (h1 : p ≠ p') (h2 : p ≠ q') (h3 : q ≠ p') (h4 : q ≠ q') : At w' p q N O y g ws :=
  h.same (s.block p h.ltp h1 h2) (s.block q h.ltq h3 h4)

/-- Its cells. -/
theorem At.cells {w : World} {p q N O y g : Nat} {ws : List Int} (h : At w p q N O y g ws) :
    w.cell? ⟨p, 0, none⟩ = some (.slice (some ⟨q, 0, none⟩) (N + O) (N + O)) ∧ w.cell? ⟨p, 1, none⟩ = some (.int .i64 0) ∧ w.cell? ⟨p, 2, none⟩ = some (.int .i64 N) ∧ w.cell? ⟨p, 3, none⟩ = some (.int .i64 y) ∧
    w.cell? ⟨p, 4, none⟩ = some (.int .i64 N) ∧ w.cell? ⟨p, 5, none⟩ = some (.int .i64 O) ∧ w.cell? ⟨p, 6, none⟩ = some (.int .i64 g) := by
  have hp := h.hp
  refine ⟨?_, ?_, ?_, ?_, ?_, ?_, ?_⟩ <;> simp [World.cell?, hp]
theorem At.frozen {w : World} {p q N O y g : Nat} {ws : List Int} (h : At w p q N O y g ws) (o : Nat) : w.frozen? ⟨p, o, none⟩ = false := by
  have hp := h.hp
  simp [World.frozen?, hp]
theorem At.frozenq {w : World} {p q N O y g : Nat} {ws : List Int} (h : At w p q N O y g ws) (o : Nat) : w.frozen? ⟨q, o, none⟩ = false := by
  have hq := h.hq
  simp [World.frozen?, hq]
/-- Its words. -/
theorem At.word {w : World} {p q N O y g : Nat} {ws : List Int} (h : At w p q N O y g ws) (i : Nat) (hi : i < N + O) : w.cell? ⟨q, i, none⟩ = some (.int .i64 (ws.getD i 0)) := by
  have hq := h.hq
  have hl := h.hl
  simp [World.cell?, hq, List.getElem?_map, List.getElem?_eq_getElem (show i < ws.length by omega), List.getD_eq_getElem?_getD]

/-- A word is stored. -/
theorem At.set {w : World} {p q N O y g : Nat} {ws : List Int} (h : At w p q N O y g ws) (i : Nat) (x : Int) : At (w.setCell ⟨q, i, none⟩ (.int .i64 x)) p q N O y g (ws.set i x) := by
  refine ⟨(Below.heap_setCell _ _ _ _ h.ne).trans h.hp, ?_, by rw [List.length_set]; exact h.hl, h.hN, h.hN', h.hO, h.hy, h.hg⟩
  have hq := h.hq
  simp only [World.setCell, Array.getElem?_modify, if_true, hq, Option.map_some]
  simp [List.map_set]
/-- All words are others. -/
theorem At.row {w : World} {p q N O y g : Nat} {ws us : List Int} (h : At w p q N O y g ws) (hu : us.length = N + O) : At (w.setRow q (us.map (Value.int .i64)).toArray) p q N O y g us :=
  ⟨(setRow_other w q p _ h.ne).trans h.hp, setRow_heap w q _ _ _ _ h.hq, hu, h.hN, h.hN', h.hO, h.hy, h.hg⟩
/-- So many words of the nursery are in use. -/
theorem At.setY {w : World} {p q N O y g : Nat} {ws : List Int} (h : At w p q N O y g ws) (z : Nat) (hz : z ≤ N) : At (w.setCell ⟨p, 3, none⟩ (.int .i64 z)) p q N O z g ws := by
  refine ⟨?_, (Below.heap_setCell _ _ _ _ h.ne.symm).trans h.hq, h.hl, h.hN, h.hN', h.hO, hz, h.hg⟩
  have hp := h.hp
  simp only [World.setCell, Array.getElem?_modify, if_true, hp, Option.map_some]
  simp
/-- So many words of the old space are in use. -/
theorem At.setG {w : World} {p q N O y g : Nat} {ws : List Int} (h : At w p q N O y g ws) (z : Nat) (hz : z ≤ O) : At (w.setCell ⟨p, 6, none⟩ (.int .i64 z)) p q N O y z ws := by
  refine ⟨?_, (Below.heap_setCell _ _ _ _ h.ne.symm).trans h.hq, h.hl, h.hN, h.hN', h.hO, h.hy, hz⟩
  have hp := h.hp
  simp only [World.setCell, Array.getElem?_modify, if_true, hp, Option.map_some]
  simp

end Go.Proofs.Ytglddgjljohkiab
