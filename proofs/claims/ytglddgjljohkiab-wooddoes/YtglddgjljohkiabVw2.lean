/- A walk in memory: its block, its map, its nodes; what may turn while it goes. -/
import Derived.Test.YtglddgjljohkiabJa
import Derived.Test.YtglddgjljohkiabWo4
import Derived.Test.YtglddgjljohkiabJf
namespace Go.Proofs.Ytglddgjljohkiab
open Go.RowKit W Kp Stl

/-- A node in memory: its kind, where its values lie, for how many there is room, the values. -/
abbrev Vnd := Int × Option Addr × Nat × List (Int × Int)
/-- The cells of nodes. -/
def nv (m : List Vnd) : List Value := m.flatMap fun x => [.int .i64 x.1, .slice x.2.1 x.2.2.2.length x.2.2.1]
/-- What they say. -/
def nds (m : List Vnd) : List (Int × List (Int × Int)) := m.map fun x => (x.1, x.2.2.2)
theorem nv_append (a b : List Vnd) : nv (a ++ b) = nv a ++ nv b := by simp [nv]
theorem nv_length : ∀ l : List Vnd, (nv l).length = l.length * 2
  | [] => rfl
  | e :: r => by
    have := nv_length r
    simp [nv] at this ⊢
    omega
theorem nv_get : ∀ (l : List Vnd) (i : Nat) (x : Vnd), l[i]? = some x → (nv l)[i * 2]? = some (.int .i64 x.1) ∧ (nv l)[i * 2 + 1]? = some (.slice x.2.1 x.2.2.2.length x.2.2.1)
  | [], i, x, h => by simp at h
  | e :: r, 0, x, h => by
    simp at h
    subst h
    simp [nv]
  | e :: r, i + 1, x, h => by
    have h2 := nv_get r i x (by simpa using h)
    have e1 : (nv (e :: r)) = .int .i64 e.1 :: .slice e.2.1 e.2.2.2.length e.2.2.1 :: nv r := by simp [nv]
    rw [e1, show (i + 1) * 2 = i * 2 + 1 + 1 by omega]
    simpa using h2
theorem nv_set : ∀ (l : List Vnd) (i : Nat) (x : Vnd) (ad : Option Addr) (c : Nat) (vs : List (Int × Int)), l[i]? = some x → nv (l.set i (x.1, ad, c, vs)) = (nv l).set (i * 2 + 1) (.slice ad vs.length c)
  | [], _, _, _, _, _, _ => rfl
  | e :: l, 0, x, ad, c, vs, h => by
    simp at h
    subst h
    simp [nv]
  | e :: l, i + 1, x, ad, c, vs, h => by
    have ih := nv_set l i x ad c vs (by simpa using h)
    have e1 : (nv (e :: l)) = .int .i64 e.1 :: .slice e.2.1 e.2.2.2.length e.2.2.1 :: nv l := by simp [nv]
    have e2 : (nv (e :: l.set i (x.1, ad, c, vs))) = .int .i64 e.1 :: .slice e.2.1 e.2.2.2.length e.2.2.1 :: nv (l.set i (x.1, ad, c, vs)) := by simp [nv]
    rw [List.set_cons_succ, e2, e1, ih, show (i + 1) * 2 + 1 = i * 2 + 1 + 1 + 1 by omega]
    simp

theorem row_put {w : World} {base size n g cap : Nat} {e : TypeId} {xs : List Value} (h : w.ownsRow base e size (.slice (some ⟨g, 0, none⟩) n cap) n xs) (i : Nat) (u : Value) : (w.setCell ⟨g, i, none⟩ u).ownsRow base e size (.slice (some ⟨g, 0, none⟩) n cap) n (xs.set i u) := by
  refine ⟨by rw [List.length_set]; exact h.1, ?_⟩
  rcases h.2 with ⟨hv, _⟩ | ⟨g', cap', cur, hv, hb, hg, h1, h2, h3, h4⟩
  · simp at hv
  · simp at hv
    obtain ⟨rfl, rfl⟩ := hv
    refine Or.inr ⟨g, cap, cur.setIfInBounds i u, rfl, hb, ?_, h1, h2, by rw [Array.size_setIfInBounds]; exact h3, ?_⟩
    · simp only [World.setCell, Array.getElem?_modify, if_true, hg, Option.map_some]
      rfl
    · rw [Array.toList_setIfInBounds, List.take_set, h4]

/-- Values lie at an address, in a block of values. -/
def Lv (w : World) (ad : Option Addr) (l : List (Int × Int)) : Prop := Lp w ad l ∧ (0 < l.length → ∃ b o cs, ad = some ⟨b, o, none⟩ ∧ w.heap[b]? = some (.cells cs 85 (0, 0)))

/-- While a walk goes: what is below B, and what is neither a walk nor nodes nor a map, stays. -/
structure Kf (B : Nat) (w w' : World) : Prop where
  os : w'.os = w.os
  tape : w'.tape = w.tape
  output : w'.output = w.output
  size : w.heap.size ≤ w'.heap.size
  low : ∀ k : Nat, k < w.heap.size → k < B → w'.heap[k]? = w.heap[k]?
  oth : ∀ (k : Nat) cs e m, w.heap[k]? = some (Obj.cells cs e m) → e ≠ 128 → e ≠ 90 → w'.heap[k]? = w.heap[k]?

section
variable {B : Nat} {w w' w'' : World}
theorem Kf.refl (B : Nat) (w : World) : Kf B w w := ⟨rfl, rfl, rfl, Nat.le_refl _, fun _ _ _ => rfl, fun _ _ _ _ _ _ _ => rfl⟩
theorem Kf.trans (h : Kf B w w') (k : Kf B w' w'') : Kf B w w'' :=
  ⟨k.os.trans h.os, k.tape.trans h.tape, k.output.trans h.output, Nat.le_trans h.size k.size, fun i hi hb => (k.low i (Nat.lt_of_lt_of_le hi h.size) hb).trans (h.low i hi hb), fun i cs e m hi h1 h2 => (k.oth i cs e m ((h.oth i cs e m hi h1 h2).trans hi) h1 h2).trans (h.oth i cs e m hi h1 h2)⟩
theorem Kf.of (h : Below w.heap.size w w') : Kf B w w' := ⟨h.os, h.tape, h.output, h.size, fun k hk _ => h.block k hk, fun k _ _ _ hi _ _ => h.block k (lt_of_some hi)⟩
theorem Kf.below (h : Kf B w w') (hB : B ≤ w.heap.size) : Below B w w' := ⟨h.os, h.tape, h.output, h.size, fun k hk => h.low k (by omega) hk⟩
theorem Kf.set {pk o : Nat} {cs : Array Value} {m : Nat × Nat} {e : TypeId} {v : Value} (hp : w.heap[pk]? = some (.cells cs e m)) (he : e = 128 ∨ e = 90) (hB : B ≤ pk) : Kf B w (w.setCell ⟨pk, o, none⟩ v) :=
  ⟨rfl, rfl, rfl, by simp [World.setCell], fun k _ hk => Below.heap_setCell _ _ _ _ (fun c => by have c : k = pk := c; omega), fun k cs2 e2 m2 hk h1 h2 => Below.heap_setCell _ _ _ _ (fun c => by
    have c : k = pk := c
    rw [c, hp] at hk
    simp at hk
    rcases he with he | he
    · exact h1 (hk.2.1.symm.trans he)
    · exact h2 (hk.2.1.symm.trans he))⟩
theorem Kf.grown {row : Option Nat} (g : w.grownBy w' row) (hr : ∀ k, row = some k → B ≤ k ∧ ∀ cs e m, w.heap[k]? = some (.cells cs e m) → e = 128 ∨ e = 90) : Kf B w w' :=
  ⟨g.os, g.tape, g.output, g.size, fun k hk hb => g.block k hk (fun e => by have := (hr k e.symm).1; omega), fun k cs e m hk h1 h2 => g.block k (lt_of_some hk) (fun c => ((hr k c.symm).2 cs e m hk).elim h1 h2)⟩
theorem Lv.kf {ad : Option Addr} {l : List (Int × Int)} (h : Lv w ad l) (k : Kf B w w') : Lv w' ad l := by
  have hk : 0 < l.length → ∀ b, ad = some b → w'.heap[b.block]? = w.heap[b.block]? := fun hp b e => by
    obtain ⟨b0, o0, cs, e0, hb⟩ := h.2 hp
    rw [e0] at e
    cases e
    exact k.oth _ _ _ _ hb (by decide) (by decide)
  refine ⟨h.1.keep k.size hk, fun hp => ?_⟩
  obtain ⟨b0, o0, cs, e0, hb⟩ := h.2 hp
  exact ⟨b0, o0, cs, e0, (hk hp _ e0).trans hb⟩
theorem Lv.nil {ad : Option Addr} : Lv w ad [] := ⟨fun h => by simp at h, fun h => by simp at h⟩
theorem Lv.of {base cap : Nat} {ad : Option Addr} {l : List (Int × Int)} (h : w.ownsRow base 85 2 (.slice ad l.length cap) l.length (ev l)) : Lv w ad l := by
  refine ⟨row_pairs h, fun hp => ?_⟩
  obtain ⟨b0, c0, e0⟩ := row_shape h hp
  obtain ⟨cs, hc⟩ := row_type h b0 (by rw [e0]; rfl)
  cases e0
  exact ⟨b0, 0, cs, rfl, hc⟩
end

/-- What a walk reads of a wood: its arena, and what waits. -/
structure Wq (w : World) (pw p q N O y g : Nat) (ws : List Int) (sd : Nat) (v0 : Value) (a1 : Option Addr) (k1 : Nat) (Q : List En) : Prop where
  c0 : w.cell? ⟨pw, 0, none⟩ = some (.pointer (some ⟨p, 0, none⟩))
  c2 : w.cell? ⟨pw, 2, none⟩ = some (.pointer (some ⟨sd, 0, none⟩))
  ar : At w p q N O y g ws
  hs : w.heap[sd]? = some (.cells #[v0, .slice a1 Q.length k1] 29 (0, 0))
  hp : Lp w a1 Q
  hm : Q.length ≤ 90000
theorem Wq.low {w0 w : World} {pw p q N O y g : Nat} {ws : List Int} {sd : Nat} {v0 : Value} {a1 : Option Addr} {k1 : Nat} {Q : List En} (h : Wq w0 pw p q N O y g ws sd v0 a1 k1 Q) (hb : Below w0.heap.size w0 w) : Wq w pw p q N O y g ws sd v0 a1 k1 Q :=
  ⟨(hb.cell (p := ⟨pw, 0, none⟩) (World.block_lt_of_cell? w0 _ h.c0)).trans h.c0, (hb.cell (p := ⟨pw, 2, none⟩) (World.block_lt_of_cell? w0 _ h.c2)).trans h.c2, h.ar.below hb (Nat.le_refl _), (hb.block sd (lt_of_some h.hs)).trans h.hs,
    h.hp.keep hb.size (fun hp a e => by
      obtain ⟨b0, o0, e0, hb0, _⟩ := h.hp hp
      rw [e0] at e
      cases e
      exact hb.block _ hb0), h.hm⟩

/-- The number of a thing. -/
def nb (ms : List Int) (a : Int) : Int := if ms.contains a = true then (ms.idxOf a : Int) else -1
theorem nb_snoc {ms : List Int} {a : Int} (hn : a ∉ ms) (b : Int) : nb (ms ++ [a]) b = if b = a then (ms.length : Int) else nb ms b := by
  unfold nb
  by_cases e : b = a
  · subst e
    rw [if_pos rfl, if_pos (by simp), List.idxOf_append, if_neg hn]
    simp
  · rw [if_neg e]
    by_cases c : b ∈ ms
    · rw [if_pos (by simp [c]), if_pos (by simpa using c), List.idxOf_append, if_pos c]
    · rw [if_neg (by simp [c, e]), if_neg (by simpa using c)]
theorem nb_no {ms : List Int} {a : Int} (hn : a ∉ ms) : nb ms a = -1 := by unfold nb; rw [if_neg (by simpa using hn)]
theorem nb_yes {ms : List Int} {a : Int} (h : a ∈ ms) : nb ms a = (ms.idxOf a : Int) := by unfold nb; rw [if_pos (by simpa using h)]

theorem lawI : Maps.Keyed Try.prog 3 := Maps.int_keyed Try.underlying3
theorem zeroI (w : World) : (zeroValue 3).run Try.prog w = .ok (.int .i64 0) w := by kernel_rfl

/-- Numbers by places: those of T alone. -/
def Nm (w : World) (mq : Nat) (T ms : List Int) : Prop :=
  ∃ D : DataW Unit, w.ownsMap Try.prog 3 (plainElem Try.prog 3) mq T.length D ∧ (∀ a : Int, Maps.has D (.int .i64 a) = T.contains a) ∧ ∀ a ∈ T, D.atKey (.int .i64 a) (.lit (.int .i64 0)) = .lit (.int .i64 (nb ms a))
theorem Nm.same {w w' : World} {mq : Nat} {T ms : List Int} (h : Nm w mq T ms) (e : w'.heap[mq]? = w.heap[mq]?) : Nm w' mq T ms := by
  obtain ⟨D, h1, h2, h3⟩ := h
  exact ⟨D, own_same h1 e, h2, h3⟩

/-- A walk. -/
structure Wk (w0 w : World) (pk mq pw : Nat) (T : List Int) (s : Vst) (vn : Value) (m : List Vnd) : Prop where
  blk : w.heap[pk]? = some (.cells #[.pointer (some ⟨pw, 0, none⟩), .map (some mq), vn] 128 (0, 0))
  lo : w0.heap.size ≤ pk ∧ w0.heap.size ≤ mq
  mp : Nm w mq T s.1
  row : w.ownsRow w0.heap.size 90 2 vn m.length (nv m)
  nd : nds m = s.2
  fl : ∀ x ∈ m, Lv w x.2.1 x.2.2.2
  bel : Below w0.heap.size w0 w

section
variable {w0 w w' : World} {pk mq pw : Nat} {T : List Int} {s : Vst} {vn : Value} {m : List Vnd}
theorem Wk.below (h : Wk w0 w pk mq pw T s vn m) (hb : Below w.heap.size w w') : Wk w0 w' pk mq pw T s vn m := by
  obtain ⟨D, o1, o2, o3⟩ := h.mp
  exact ⟨(hb.block pk (lt_of_some h.blk)).trans h.blk, h.lo, h.mp.same (hb.block mq o1.lt), row_keep h.row (fun k hk => hb.block k (row_lt h.row k hk).2), h.nd, fun x hx => (h.fl x hx).kf (Kf.of (B := 0) hb), h.bel.trans (hb.mono h.bel.size)⟩
theorem Wk.cells (h : Wk w0 w pk mq pw T s vn m) : w.cell? ⟨pk, 0, none⟩ = some (.pointer (some ⟨pw, 0, none⟩)) ∧ w.cell? ⟨pk, 1, none⟩ = some (.map (some mq)) ∧ w.cell? ⟨pk, 2, none⟩ = some vn ∧ pk < w.heap.size :=
  ⟨by simp [World.cell?, h.blk], by simp [World.cell?, h.blk], by simp [World.cell?, h.blk], lt_of_some h.blk⟩
theorem Wk.frozen (h : Wk w0 w pk mq pw T s vn m) (o : Nat) : w.frozen? ⟨pk, o, none⟩ = false := by simp [World.frozen?, h.blk]
theorem Wk.len (h : Wk w0 w pk mq pw T s vn m) : m.length = s.2.length := by rw [← h.nd]; simp [nds]
end

end Go.Proofs.Ytglddgjljohkiab
