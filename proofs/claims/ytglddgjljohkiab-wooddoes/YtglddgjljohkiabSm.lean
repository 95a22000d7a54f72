/- Memory in parts: all blocks but those of a set are as they were; rows of numbers, and of pairs of numbers. -/
import Derived.Test.YtglddgjljohkiabAr
import Derived.Test.YtglddgjljohkiabJa
namespace Go.Proofs.Ytglddgjljohkiab
open Go.RowKit W

/-- All blocks but those of X are as they were. -/
structure Fr (X : Nat → Prop) (w w' : World) : Prop where
  os : w'.os = w.os
  tape : w'.tape = w.tape
  output : w'.output = w.output
  size : w.heap.size ≤ w'.heap.size
  block : ∀ k, k < w.heap.size → ¬ X k → w'.heap[k]? = w.heap[k]?

theorem Fr.refl (X : Nat → Prop) (w : World) : Fr X w w := ⟨rfl, rfl, rfl, Nat.le_refl _, fun _ _ _ => rfl⟩
/-- One behind the other: what the second turns is of the first's, or new. -/
theorem Fr.trans {X Y : Nat → Prop} {a b c : World} (h : Fr X a b) (k : Fr Y b c) (hy : ∀ i, Y i → X i ∨ a.heap.size ≤ i) : Fr X a c :=
  ⟨k.os.trans h.os, k.tape.trans h.tape, k.output.trans h.output, Nat.le_trans h.size k.size, fun i hi hx => (k.block i (Nat.lt_of_lt_of_le hi h.size) (fun c => (hy i c).elim hx (fun c => by omega))).trans (h.block i hi hx)⟩
theorem Fr.mono {X Y : Nat → Prop} {w w' : World} (h : Fr X w w') (hy : ∀ i, X i → Y i) : Fr Y w w' := ⟨h.os, h.tape, h.output, h.size, fun i hi hx => h.block i hi (fun c => hx (hy i c))⟩
theorem Fr.of {X : Nat → Prop} {w w' : World} (h : Below w.heap.size w w') : Fr X w w' := ⟨h.os, h.tape, h.output, h.size, fun k hk _ => h.block k hk⟩
theorem Fr.alloc {X : Nat → Prop} {a w : World} (h : Fr X a w) (o : Obj) : Fr X a (w.alloc o) := h.trans (Fr.of (X := X) ((Below.refl _ _).alloc (Nat.le_refl _) _)) (fun _ c => Or.inl c)
theorem Fr.drew {X : Nat → Prop} {a w : World} (h : Fr X a w) : Fr X a w.drew := ⟨h.os, h.tape, h.output, h.size, h.block⟩
theorem Fr.set {X : Nat → Prop} {a w : World} (h : Fr X a w) (c o : Nat) (v : Value) (hc : X c) : Fr X a (w.setCell ⟨c, o, none⟩ v) :=
  ⟨h.os, h.tape, h.output, by simpa [World.setCell] using h.size, fun k hk hx => (Below.heap_setCell _ _ _ _ (fun e => hx (by rw [e]; exact hc))).trans (h.block k hk hx)⟩
theorem Fr.grown {X : Nat → Prop} {a w w' : World} {row : Option Nat} (h : Fr X a w) (g : w.grownBy w' row) (hr : ∀ k, row = some k → X k ∨ a.heap.size ≤ k) : Fr X a w' :=
  ⟨g.os.trans h.os, g.tape.trans h.tape, g.output.trans h.output, Nat.le_trans h.size g.size, fun k hk hx => (g.block k (Nat.lt_of_lt_of_le hk h.size) (fun e => (hr k e.symm).elim hx (fun c => by omega))).trans (h.block k hk hx)⟩
theorem Fr.below {X : Nat → Prop} {w w' : World} {B : Nat} (h : Fr X w w') (hB : B ≤ w.heap.size) (hx : ∀ k, X k → B ≤ k) : Below B w w' :=
  ⟨h.os, h.tape, h.output, h.size, fun k hk => h.block k (by omega) (fun c => by have := hx k c; omega)⟩

/-! ### rows -/
/-- A row of its own stays where its block does. -/
theorem row_keep {w w' : World} {base n m : Nat} {e : TypeId} {v : Value} {l : List Value} (h : w.ownsRow base e m v n l) (hk : ∀ k, some k = v.ownBlock → w'.heap[k]? = w.heap[k]?) : w'.ownsRow base e m v n l := by
  refine ⟨h.1, ?_⟩
  rcases h.2 with hn | ⟨g, cap, cur, rfl, hb, hgg, rest⟩
  · exact .inl hn
  · exact .inr ⟨g, cap, cur, rfl, hb, (hk g rfl).trans hgg, rest⟩
theorem row_lt {w : World} {base n m : Nat} {e : TypeId} {v : Value} {l : List Value} (h : w.ownsRow base e m v n l) : ∀ k, some k = v.ownBlock → base ≤ k ∧ k < w.heap.size := fun k hk => h.lt k hk.symm
theorem row_fr {X : Nat → Prop} {w w' : World} {base n m : Nat} {e : TypeId} {v : Value} {l : List Value} (h : w.ownsRow base e m v n l) (f : Fr X w w') (hx : ∀ k, some k = v.ownBlock → ¬ X k) : w'.ownsRow base e m v n l :=
  row_keep h (fun k hk => f.block k (row_lt h k hk).2 (hx k hk))
theorem row_base {w : World} {base base' n m : Nat} {e : TypeId} {v : Value} {l : List Value} (h : w.ownsRow base e m v n l) (hb : ∀ k, some k = v.ownBlock → base' ≤ k) : w.ownsRow base' e m v n l := by
  refine ⟨h.1, ?_⟩
  rcases h.2 with hn | ⟨g, cap, cur, rfl, _, rest⟩
  · exact .inl hn
  · exact .inr ⟨g, cap, cur, rfl, hb g rfl, rest⟩
/-- A row's block is one of that type. -/
theorem row_type {w : World} {base n m : Nat} {e : TypeId} {v : Value} {l : List Value} (h : w.ownsRow base e m v n l) : ∀ k, some k = v.ownBlock → ∃ cur, w.heap[k]? = some (.cells cur e (0, 0)) := by
  intro k hk
  rcases h.2 with ⟨rfl, _⟩ | ⟨g, cap, cur, rfl, _, hgg, _⟩
  · simp [Value.ownBlock] at hk
  · simp [Value.ownBlock] at hk
    subst hk
    exact ⟨cur, hgg⟩
theorem row_shape {w : World} {base n m : Nat} {e : TypeId} {v : Value} {l : List Value} (h : w.ownsRow base e m v n l) (hn : 0 < n) : ∃ b cap, v = .slice (some ⟨b, 0, none⟩) n cap := by
  rcases h.2 with ⟨_, h0⟩ | ⟨g, cap, cur, hv, _⟩
  · omega
  · exact ⟨g, cap, hv⟩
theorem row_slice {w : World} {base n m : Nat} {e : TypeId} {v : Value} {l : List Value} (h : w.ownsRow base e m v n l) : ∃ ad cap, v = .slice ad n cap := by
  rcases h.2 with ⟨hv, h0⟩ | ⟨g, cap, cur, hv, _⟩
  · exact ⟨none, 0, by rw [hv, h0]⟩
  · exact ⟨_, cap, hv⟩

/-- Numbers lie at a slice's address. -/
def Ls (w : World) (ad : Option Addr) (l : List Int) : Prop := 0 < l.length → ∃ b o, ad = some ⟨b, o, none⟩ ∧ b < w.heap.size ∧ ∀ i, i < l.length → w.cell? ⟨b, o + i, none⟩ = some (.int .i64 (l.getD i 0))
/-- Pairs of numbers lie at a slice's address. -/
def Lp (w : World) (ad : Option Addr) (l : List (Int × Int)) : Prop :=
  0 < l.length → ∃ b o, ad = some ⟨b, o, none⟩ ∧ b < w.heap.size ∧ ∀ i, i < l.length → w.cell? ⟨b, o + i * 2, none⟩ = some (.int .i64 (l.getD i (0, 0)).1) ∧ w.cell? ⟨b, o + i * 2 + 1, none⟩ = some (.int .i64 (l.getD i (0, 0)).2)

/-- The cells of pairs. -/
def ev (l : List (Int × Int)) : List Value := l.flatMap fun e => [.int .i64 e.1, .int .i64 e.2]
theorem ev_append (a b : List (Int × Int)) : ev (a ++ b) = ev a ++ ev b := by simp [ev]
theorem ev_length : ∀ l : List (Int × Int), (ev l).length = l.length * 2
  | [] => rfl
  | e :: r => by
    have := ev_length r
    simp [ev] at this ⊢
    omega
theorem ev_get : ∀ (l : List (Int × Int)) (i : Nat), i < l.length → (ev l)[i * 2]? = some (.int .i64 (l.getD i (0, 0)).1) ∧ (ev l)[i * 2 + 1]? = some (.int .i64 (l.getD i (0, 0)).2)
  | [], i, h => by simp at h
  | e :: r, 0, _ => by simp [ev]
  | e :: r, i + 1, h => by
    have h2 := ev_get r i (by simpa using h)
    have e1 : (ev (e :: r)) = .int .i64 e.1 :: .int .i64 e.2 :: ev r := by simp [ev]
    rw [e1, show (i + 1) * 2 = i * 2 + 1 + 1 by omega]
    simpa using h2

theorem row_ints {w : World} {base : Nat} {e : TypeId} {ad : Option Addr} {cap : Nat} {l : List Int} (h : w.ownsRow base e 1 (.slice ad l.length cap) l.length (l.map (Value.int .i64))) : Ls w ad l := by
  intro hp
  rcases h.2 with ⟨_, h0⟩ | ⟨g, cap', cur, hv, hb, hh, h3, h4, h5, h6⟩
  · omega
  · simp at hv
    obtain ⟨rfl, rfl⟩ := hv
    refine ⟨g, 0, rfl, lt_of_some hh, fun i hi => ?_⟩
    have e2 : (cur.toList.take (l.length * 1))[i]? = some (.int .i64 (l.getD i 0)) := by
      rw [h6]
      simp [List.getElem?_map, List.getElem?_eq_getElem hi]
    rw [List.getElem?_take_of_lt (by omega)] at e2
    simp [World.cell?, hh]
    simpa using e2
theorem row_pairs {w : World} {base : Nat} {e : TypeId} {ad : Option Addr} {cap : Nat} {l : List (Int × Int)} (h : w.ownsRow base e 2 (.slice ad l.length cap) l.length (ev l)) : Lp w ad l := by
  intro hp
  rcases h.2 with ⟨_, h0⟩ | ⟨g, cap', cur, hv, hb, hh, h3, h4, h5, h6⟩
  · omega
  · simp at hv
    obtain ⟨rfl, rfl⟩ := hv
    refine ⟨g, 0, rfl, lt_of_some hh, fun i hi => ?_⟩
    obtain ⟨k1, k2⟩ := ev_get l i hi
    rw [← h6, List.getElem?_take_of_lt (by omega)] at k1 k2
    constructor
    · simp [World.cell?, hh]
      simpa using k1
    · simp [World.cell?, hh]
      simpa using k2
theorem Ls.keep {w w' : World} {ad : Option Addr} {l : List Int} (h : Ls w ad l) (hs : w.heap.size ≤ w'.heap.size) (hk : 0 < l.length → ∀ a, ad = some a → w'.heap[a.block]? = w.heap[a.block]?) : Ls w' ad l := by
  intro hp
  obtain ⟨b, o, rfl, hb, hc⟩ := h hp
  exact ⟨b, o, rfl, by omega, fun i hi => (World.cell?_of_block (a := ⟨b, o + i, none⟩) (hk hp ⟨b, o, none⟩ rfl)).trans (hc i hi)⟩
theorem Lp.keep {w w' : World} {ad : Option Addr} {l : List (Int × Int)} (h : Lp w ad l) (hs : w.heap.size ≤ w'.heap.size) (hk : 0 < l.length → ∀ a, ad = some a → w'.heap[a.block]? = w.heap[a.block]?) : Lp w' ad l := by
  intro hp
  obtain ⟨b, o, rfl, hb, hc⟩ := h hp
  exact ⟨b, o, rfl, by omega, fun i hi => ⟨(World.cell?_of_block (a := ⟨b, o + i * 2, none⟩) (hk hp ⟨b, o, none⟩ rfl)).trans (hc i hi).1, (World.cell?_of_block (a := ⟨b, o + i * 2 + 1, none⟩) (hk hp ⟨b, o, none⟩ rfl)).trans (hc i hi).2⟩⟩

end Go.Proofs.Ytglddgjljohkiab
