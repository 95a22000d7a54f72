/- A Side, and the document's two lists beside it: four rows, each apart from the others. -/
import Derived.Test.YthlfgddhkffilaaSdb
import Derived.Test.YthlfgddhkffilaaSdd
namespace Go.Proofs.Ythlfgddhkffilaa
open Go.RowKit W Kp Stl

/-- Two values share no block. -/
def Dj (u v : Value) : Prop := ∀ k, some k = u.ownBlock → some k ≠ v.ownBlock
theorem Dj.symm {u v : Value} (h : Dj u v) : Dj v u := fun k e e' => h k e' e
/-- What is of the first, or new, and of the second, or new, but not both new. -/
theorem Dj.step {N : Nat} {u v u' v' : Value} (h : Dj u v) (hu : ∀ k, some k = u'.ownBlock → some k = u.ownBlock ∨ N ≤ k) (hv : ∀ k, some k = v'.ownBlock → some k = v.ownBlock ∨ N ≤ k) (_ : ∀ k, some k = u.ownBlock → k < N) (_ : ∀ k, some k = v.ownBlock → k < N) (hx : ∀ k, some k = u'.ownBlock → some k = v'.ownBlock → k < N) : Dj u' v' := by
  intro k e e'
  have h0 := hx k e e'
  rcases hu k e with h1 | h1
  · rcases hv k e' with h2 | h2
    · exact h k h1 h2
    · omega
  · omega

structure Sst (B : Nat) (w1 w : World) (p : Nat) (v0 v1 v2 v3 : Value) (r q r' q' : List En) : Prop where
  blk : w.heap[p]? = some (.cells #[v0, v1] 82 (0, 0))
  r0 : w.ownsRow B 84 2 v0 r.length (ev r)
  r1 : w.ownsRow B 84 2 v1 q.length (ev q)
  r2 : w.ownsRow B 84 2 v2 r'.length (ev r')
  r3 : w.ownsRow B 84 2 v3 q'.length (ev q')
  d01 : Dj v0 v1
  d02 : Dj v0 v2
  d03 : Dj v0 v3
  d12 : Dj v1 v2
  d13 : Dj v1 v3
  d23 : Dj v2 v3
  pB : B ≤ p
  hb : Below B w1 w

section
variable {B : Nat} {w1 w w' : World} {p : Nat} {v0 v1 v2 v3 : Value} {r q r' q' : List En}

theorem Sst.below (h : Sst B w1 w p v0 v1 v2 v3 r q r' q') (hB : B ≤ w.heap.size) (hb : Below w.heap.size w w') : Sst B w1 w' p v0 v1 v2 v3 r q r' q' :=
  ⟨(hb.block p (lt_of_some h.blk)).trans h.blk, row_keep h.r0 (fun k e => hb.block k (row_lt h.r0 k e).2), row_keep h.r1 (fun k e => hb.block k (row_lt h.r1 k e).2), row_keep h.r2 (fun k e => hb.block k (row_lt h.r2 k e).2), row_keep h.r3 (fun k e => hb.block k (row_lt h.r3 k e).2), h.d01, h.d02, h.d03, h.d12, h.d13, h.d23, h.pB, h.hb.trans (hb.mono hB)⟩
theorem row_np {b n : Nat} {v x y : Value} {l : List Value} (hp : w.heap[p]? = some (.cells #[x, y] 82 (0, 0))) (hr : w.ownsRow b 84 2 v n l) : ∀ k, some k = v.ownBlock → k ≠ p := by
  intro k e e'
  obtain ⟨cur, hc⟩ := row_type hr k e
  rw [e', hp] at hc
  simp at hc

/-- What is registered is another list, in new memory. -/
theorem Sst.repl0 (h : Sst B w1 w p v0 v1 v2 v3 r q r' q') (hB : B ≤ w.heap.size) {u : Value} {l : List En} (hf : Fr (fun k => k = p) w w') (hp : w'.heap[p]? = some (.cells #[u, v1] 82 (0, 0))) (hu : w'.ownsRow 0 84 2 u l.length (ev l)) (hn : ∀ k, some k = u.ownBlock → w.heap.size ≤ k) : Sst B w1 w' p u v1 v2 v3 l q r' q' := by
  have k1 := fun k e => (row_lt h.r1 k e).2
  have k2 := fun k e => (row_lt h.r2 k e).2
  have k3 := fun k e => (row_lt h.r3 k e).2
  have nw : ∀ {v : Value}, (∀ k, some k = v.ownBlock → k < w.heap.size) → Dj u v := fun hv k e e' => by have h1 := hn k e; have h2 := hv k e'; omega
  exact ⟨hp, row_base hu (fun k e => Nat.le_trans hB (hn k e)), row_fr h.r1 hf (row_np h.blk h.r1), row_fr h.r2 hf (row_np h.blk h.r2), row_fr h.r3 hf (row_np h.blk h.r3), nw k1, nw k2, nw k3, h.d12, h.d13, h.d23, h.pB, h.hb.trans (hf.below hB (fun x e => by have e : x = p := e; rw [e]; exact h.pB))⟩
/-- What waits is another list, in new memory. -/
theorem Sst.repl1 (h : Sst B w1 w p v0 v1 v2 v3 r q r' q') (hB : B ≤ w.heap.size) {u : Value} {l : List En} (hf : Fr (fun k => k = p) w w') (hp : w'.heap[p]? = some (.cells #[v0, u] 82 (0, 0))) (hu : w'.ownsRow 0 84 2 u l.length (ev l)) (hn : ∀ k, some k = u.ownBlock → w.heap.size ≤ k) : Sst B w1 w' p v0 u v2 v3 r l r' q' := by
  have k0 := fun k e => (row_lt h.r0 k e).2
  have k2 := fun k e => (row_lt h.r2 k e).2
  have k3 := fun k e => (row_lt h.r3 k e).2
  have nw : ∀ {v : Value}, (∀ k, some k = v.ownBlock → k < w.heap.size) → Dj u v := fun hv k e e' => by have h1 := hn k e; have h2 := hv k e'; omega
  exact ⟨hp, row_fr h.r0 hf (row_np h.blk h.r0), row_base hu (fun k e => Nat.le_trans hB (hn k e)), row_fr h.r2 hf (row_np h.blk h.r2), row_fr h.r3 hf (row_np h.blk h.r3), (nw k0).symm, h.d02, h.d03, nw k2, nw k3, h.d23, h.pB, h.hb.trans (hf.below hB (fun x e => by have e : x = p := e; rw [e]; exact h.pB))⟩
/-- Another Side like it. -/
theorem Sst.copy (h : Sst B w1 w p v0 v1 v2 v3 r q r' q') (hB : B ≤ w.heap.size) {p' : Nat} {u0 u1 : Value} (hb : Below w.heap.size w w') (hp : w'.heap[p']? = some (.cells #[u0, u1] 82 (0, 0))) (hp' : w.heap.size ≤ p') (h0 : w'.ownsRow 0 84 2 u0 r.length (ev r)) (h1 : w'.ownsRow 0 84 2 u1 q.length (ev q)) (n0 : ∀ k, some k = u0.ownBlock → w.heap.size ≤ k) (n1 : ∀ k, some k = u1.ownBlock → w.heap.size ≤ k) (hd : Dj u0 u1) : Sst B w1 w' p' u0 u1 v2 v3 r q r' q' := by
  have k2 := fun k e => (row_lt h.r2 k e).2
  have k3 := fun k e => (row_lt h.r3 k e).2
  have nw0 : ∀ {v : Value}, (∀ k, some k = v.ownBlock → k < w.heap.size) → Dj u0 v := fun hv k e e' => by have h1 := n0 k e; have h2 := hv k e'; omega
  have nw1 : ∀ {v : Value}, (∀ k, some k = v.ownBlock → k < w.heap.size) → Dj u1 v := fun hv k e e' => by have h1 := n1 k e; have h2 := hv k e'; omega
  exact ⟨hp, row_base h0 (fun k e => Nat.le_trans hB (n0 k e)), row_base h1 (fun k e => Nat.le_trans hB (n1 k e)), row_keep h.r2 (fun k e => hb.block k (k2 k e)), row_keep h.r3 (fun k e => hb.block k (k3 k e)), hd, nw0 k2, nw0 k3, nw1 k2, nw1 k3, h.d23, Nat.le_trans hB hp', h.hb.trans (hb.mono hB)⟩
/-- The document's list of what is registered grows. -/
theorem Sst.grow2 (h : Sst B w1 w p v0 v1 v2 v3 r q r' q') (hB : B ≤ w.heap.size) {u : Value} {l : List En} (hg : w.grownBy w' v2.ownBlock) (hu : w'.ownsRow B 84 2 u l.length (ev l)) (hl : ∀ k, some k = u.ownBlock → some k = v2.ownBlock ∨ w.heap.size ≤ k) : Sst B w1 w' p v0 v1 u v3 r q l q' := by
  have k0 := fun k e => (row_lt h.r0 k e).2
  have k1 := fun k e => (row_lt h.r1 k e).2
  have k2 := fun k e => (row_lt h.r2 k e).2
  have k3 := fun k e => (row_lt h.r3 k e).2
  have kk : ∀ k, k < w.heap.size → some k ≠ v2.ownBlock → w'.heap[k]? = w.heap[k]? := fun k a b => hg.block k a b
  exact ⟨(kk p (lt_of_some h.blk) (fun e => row_np h.blk h.r2 p e rfl)).trans h.blk, row_keep h.r0 (fun k e => kk k (k0 k e) (h.d02 k e)), row_keep h.r1 (fun k e => kk k (k1 k e) (h.d12 k e)), hu, row_keep h.r3 (fun k e => kk k (k3 k e) (h.d23.symm k e)), h.d01,
    h.d02.step (fun _ e => Or.inl e) hl k0 k2 (fun k e _ => k0 k e), h.d03, h.d12.step (fun _ e => Or.inl e) hl k1 k2 (fun k e _ => k1 k e), h.d13, h.d23.step hl (fun _ e => Or.inl e) k2 k3 (fun k _ e => k3 k e), h.pB, h.hb.grown hg hB (fun k e => (row_lt h.r2 k e.symm).1)⟩
/-- The document's list of what waits grows. -/
theorem Sst.grow3 (h : Sst B w1 w p v0 v1 v2 v3 r q r' q') (hB : B ≤ w.heap.size) {u : Value} {l : List En} (hg : w.grownBy w' v3.ownBlock) (hu : w'.ownsRow B 84 2 u l.length (ev l)) (hl : ∀ k, some k = u.ownBlock → some k = v3.ownBlock ∨ w.heap.size ≤ k) : Sst B w1 w' p v0 v1 v2 u r q r' l := by
  have k0 := fun k e => (row_lt h.r0 k e).2
  have k1 := fun k e => (row_lt h.r1 k e).2
  have k2 := fun k e => (row_lt h.r2 k e).2
  have k3 := fun k e => (row_lt h.r3 k e).2
  have kk : ∀ k, k < w.heap.size → some k ≠ v3.ownBlock → w'.heap[k]? = w.heap[k]? := fun k a b => hg.block k a b
  exact ⟨(kk p (lt_of_some h.blk) (fun e => row_np h.blk h.r3 p e rfl)).trans h.blk, row_keep h.r0 (fun k e => kk k (k0 k e) (h.d03 k e)), row_keep h.r1 (fun k e => kk k (k1 k e) (h.d13 k e)), row_keep h.r2 (fun k e => kk k (k2 k e) (h.d23 k e)), hu, h.d01, h.d02,
    h.d03.step (fun _ e => Or.inl e) hl k0 k3 (fun k e _ => k0 k e), h.d12, h.d13.step (fun _ e => Or.inl e) hl k1 k3 (fun k e _ => k1 k e), h.d23.step (fun _ e => Or.inl e) hl k2 k3 (fun k e _ => k2 k e), h.pB, h.hb.grown hg hB (fun k e => (row_lt h.r3 k e.symm).1)⟩
/-- The document's list of what waits is another one, in new memory. -/
theorem Sst.new3 (h : Sst B w1 w p v0 v1 v2 v3 r q r' q') (hB : B ≤ w.heap.size) {u : Value} {l : List En} (hb : Below w.heap.size w w') (hu : w'.ownsRow w.heap.size 84 2 u l.length (ev l)) : Sst B w1 w' p v0 v1 v2 u r q r' l := by
  have hn := fun k e => (row_lt hu k e).1
  have h' := h.below hB hb
  have nw : ∀ {v : Value}, (∀ k, some k = v.ownBlock → k < w.heap.size) → Dj v u := fun hv k e e' => by have h1 := hn k e'; have h2 := hv k e; omega
  exact ⟨h'.blk, h'.r0, h'.r1, h'.r2, row_base hu (fun k e => Nat.le_trans hB (hn k e)), h.d01, h.d02, nw (fun k e => (row_lt h.r0 k e).2), h.d12, nw (fun k e => (row_lt h.r1 k e).2), nw (fun k e => (row_lt h.r2 k e).2), h.pB, h'.hb⟩
/-- What waits grows. -/
theorem Sst.grow1 (h : Sst B w1 w p v0 v1 v2 v3 r q r' q') (hB : B ≤ w.heap.size) {u : Value} {l : List En} (hg : w.grownBy w' v1.ownBlock) (hu : w'.ownsRow B 84 2 u l.length (ev l)) (hl : ∀ k, some k = u.ownBlock → some k = v1.ownBlock ∨ w.heap.size ≤ k) : Sst B w1 (w'.setCell ⟨p, 1, none⟩ u) p v0 u v2 v3 r l r' q' := by
  have k0 := fun k e => (row_lt h.r0 k e).2
  have k1 := fun k e => (row_lt h.r1 k e).2
  have k2 := fun k e => (row_lt h.r2 k e).2
  have k3 := fun k e => (row_lt h.r3 k e).2
  have lp := lt_of_some h.blk
  have hp' := (hg.block p lp (fun e => row_np h.blk h.r1 p e rfl)).trans h.blk
  have kk : ∀ k, k < w.heap.size → some k ≠ v1.ownBlock → k ≠ p → (w'.setCell ⟨p, 1, none⟩ u).heap[k]? = w.heap[k]? := fun k a b c => (Below.heap_setCell _ _ _ _ c).trans (hg.block k a b)
  have hsz := hg.size
  exact ⟨set_snd hp', row_keep h.r0 (fun k e => kk k (k0 k e) (h.d01 k e) (row_np h.blk h.r0 k e)), row_keep hu (fun k e => Below.heap_setCell _ _ _ _ (row_np hp' hu k e)), row_keep h.r2 (fun k e => kk k (k2 k e) (h.d12.symm k e) (row_np h.blk h.r2 k e)), row_keep h.r3 (fun k e => kk k (k3 k e) (h.d13.symm k e) (row_np h.blk h.r3 k e)),
    h.d01.step (fun _ e => Or.inl e) hl k0 k1 (fun k e _ => k0 k e), h.d02, h.d03, h.d12.step hl (fun _ e => Or.inl e) k1 k2 (fun k _ e => k2 k e), h.d13.step hl (fun _ e => Or.inl e) k1 k3 (fun k _ e => k3 k e), h.d23, h.pB,
    (h.hb.grown hg hB (fun k e => (row_lt h.r1 k e.symm).1)).trans (((Fr.refl (fun k => k = p) w').set p 1 u rfl).below (Nat.le_trans hB hsz) (fun x e => by have e : x = p := e; rw [e]; exact h.pB))⟩
end

end Go.Proofs.Ythlfgddhkffilaa
