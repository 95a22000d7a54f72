/- Full, Reg, Copy of a Side: contracts. -/
import Derived.Test.YthlfgddhkffilaaSd3
import Derived.Test.YthlfgddhkffilaaSd8
namespace Go.Proofs.Ythlfgddhkffilaa
open Go.RowKit W Kp Stl

/-- A Side in memory: what is registered, what waits, each in a row of its own. -/
structure Sds (w : World) (p : Nat) (a0 : Option Addr) (k0 : Nat) (a1 : Option Addr) (k1 : Nat) (r q : List En) : Prop where
  blk : w.heap[p]? = some (.cells #[.slice a0 r.length k0, .slice a1 q.length k1] 82 (0, 0))
  r0 : w.ownsRow 0 84 2 (.slice a0 r.length k0) r.length (ev r)
  q0 : w.ownsRow 0 84 2 (.slice a1 q.length k1) q.length (ev q)

theorem row_li {w : World} {base : Nat} {e : TypeId} {ad : Option Addr} {cap : Nat} {l : List En} (h : w.ownsRow base e 2 (.slice ad l.length cap) l.length (ev l)) : Li w ad l cap := by
  refine ⟨row_pairs h, ?_, ?_⟩
  · rcases h.2 with ⟨hv, h0⟩ | ⟨g, cap', cur, hv, _, _, hc, _⟩
    · omega
    · simp at hv; omega
  · intro e0
    rcases h.2 with ⟨hv, h0⟩ | ⟨g, cap', cur, hv, _⟩
    · simp at hv; exact ⟨h0, hv.2.2⟩
    · rw [e0] at hv; simp at hv

theorem Sds.keep {w w' : World} {p : Nat} {a0 a1 : Option Addr} {k0 k1 : Nat} {r q : List En} (h : Sds w p a0 k0 a1 k1 r q) (h1 : w'.heap[p]? = w.heap[p]?) (h2 : ∀ k, some k = (Value.slice a0 r.length k0).ownBlock → w'.heap[k]? = w.heap[k]?) (h3 : ∀ k, some k = (Value.slice a1 q.length k1).ownBlock → w'.heap[k]? = w.heap[k]?) : Sds w' p a0 k0 a1 k1 r q :=
  ⟨h1.trans h.blk, row_keep h.r0 h2, row_keep h.q0 h3⟩
theorem Sds.below {w w' : World} {p : Nat} {a0 a1 : Option Addr} {k0 k1 : Nat} {r q : List En} (h : Sds w p a0 k0 a1 k1 r q) (hb : Below w.heap.size w w') : Sds w' p a0 k0 a1 k1 r q :=
  h.keep (hb.block p (lt_of_some h.blk)) (fun k e => hb.block k (row_lt h.r0 k e).2) (fun k e => hb.block k (row_lt h.q0 k e).2)
/-- A row's block is not the Side's own. -/
theorem Sds.np {w : World} {p : Nat} {a0 a1 : Option Addr} {k0 k1 : Nat} {r q : List En} (h : Sds w p a0 k0 a1 k1 r q) {b n : Nat} {v : Value} {l : List Value} (hr : w.ownsRow b 84 2 v n l) : ∀ k, some k = v.ownBlock → k ≠ p := by
  intro k e e'
  obtain ⟨cur, hc⟩ := row_type hr k e
  rw [e', h.blk] at hc
  simp at hc

/-- Full, by how many there are. -/
def fulB (n : Nat) : Bool := decide (24 ≤ n)
theorem fulB_yes {n : Nat} (h : 24 ≤ n) : fulB n = true := by simp [fulB, h]
theorem fulB_no {n : Nat} (h : ¬ 24 ≤ n) : fulB n = false := by simp [fulB, h]

theorem ful_eq {n0 n1 : Nat} (h0 : n0 ≤ 100000) (h1 : n1 ≤ 100000) : Hid (decide ((24 : Int) ≤ IntKind.i64.wrap ((n0 : Int) + (n1 : Int))) = fulB (n0 + n1)) := by
  show _ = _
  rw [show IntKind.i64.wrap ((n0 : Int) + (n1 : Int)) = (n0 : Int) + n1 by rw [IntKind.wrap_i64]; omega]
  unfold fulB
  by_cases h : 24 ≤ n0 + n1
  · rw [decide_eq_true h, decide_eq_true (by omega)]
  · rw [decide_eq_false h, decide_eq_false (by omega)]

set_option maxRecDepth 100000 in
set_option maxHeartbeats 400000 in
theorem full_any' (w : World) (p : Nat) (a0 a1 : Option Addr) (n0 k0 n1 k1 : Nat) (h : w.heap[p]? = some (.cells #[.slice a0 n0 k0, .slice a1 n1 k1] 82 (0, 0))) (h0 : n0 ≤ 100000) (h1 : n1 ≤ 100000) :
    Calls Try.prog 68 #[.pointer (some ⟨p, 0, none⟩)] w fun e w' => e = .returned (.bool (fulB (n0 + n1))) ∧ Below w.heap.size w w' := by
  have c0 : w.cell? ⟨p, 0, none⟩ = some (.slice a0 n0 k0) := by simp [World.cell?, h]
  have c1 : w.cell? ⟨p, 1, none⟩ = some (.slice a1 n1 k1) := by simp [World.cell?, h]
  clear h
  have HE := ful_eq h0 h1
  go_enter Try.func68, Try.ntmps68
  go_wp2_with fail
  go_region_held3 (fun w' => w'.cell? ⟨p, 0, none⟩ = some (.slice a0 n0 k0) ∧ w'.cell? ⟨p, 1, none⟩ = some (.slice a1 n1 k1)) (go_keep) (fail)
  go_wp2_with fail
  go_ret
  exact ⟨by rw [← HE.out]; rfl, (Below.refl _ _).drew⟩

theorem Sds.cells {w : World} {p : Nat} {a0 a1 : Option Addr} {k0 k1 : Nat} {r q : List En} (h : Sds w p a0 k0 a1 k1 r q) : w.cell? ⟨p, 0, none⟩ = some (.slice a0 r.length k0) ∧ w.cell? ⟨p, 1, none⟩ = some (.slice a1 q.length k1) ∧ w.frozen? ⟨p, 0, none⟩ = false ∧ w.frozen? ⟨p, 1, none⟩ = false ∧ p < w.heap.size :=
  ⟨by simp [World.cell?, h.blk], by simp [World.cell?, h.blk], by simp [World.frozen?, h.blk], by simp [World.frozen?, h.blk], lt_of_some h.blk⟩

theorem set_fst {w : World} {p : Nat} {x y v : Value} {T : TypeId} (h : w.heap[p]? = some (.cells #[x, y] T (0, 0))) : (w.setCell ⟨p, 0, none⟩ v).heap[p]? = some (.cells #[v, y] T (0, 0)) := by
  simp only [World.setCell, Array.getElem?_modify, if_true, h, Option.map_some]
  simp
theorem set_snd {w : World} {p : Nat} {x y v : Value} {T : TypeId} (h : w.heap[p]? = some (.cells #[x, y] T (0, 0))) : (w.setCell ⟨p, 1, none⟩ v).heap[p]? = some (.cells #[x, v] T (0, 0)) := by
  simp only [World.setCell, Array.getElem?_modify, if_true, h, Option.map_some]
  simp

set_option maxRecDepth 100000 in
set_option maxHeartbeats 1000000 in
theorem reg_any (w : World) (p : Nat) (a0 a1 : Option Addr) (k0 k1 : Nat) (r q : List En) (g z : Int) (h : Sds w p a0 k0 a1 k1 r q) (h0 : r.length ≤ 90000) (h1 : q.length ≤ 90000) :
    Calls Try.prog 65 #[.pointer (some ⟨p, 0, none⟩), .agg #[.int .i64 g, .int .i64 z]] w fun e w' => e = .returned (.bool (!fulB (r.length + q.length))) ∧
      ((24 ≤ r.length + q.length ∧ Below w.heap.size w w') ∨ (¬ 24 ≤ r.length + q.length ∧ ∃ b1 c1, Sds w' p (some ⟨b1, 0, none⟩) c1 a1 k1 (r ++ [(g, z)]) q ∧ w.heap.size ≤ b1 ∧ Fr (fun k => k = p) w w')) := by
  obtain ⟨c0, c1, f0, f1, lp⟩ := h.cells
  have H : Hid (Sds w p a0 k0 a1 k1 r q) := h
  have hb1 := (Below.refl w.heap.size w).alloc (Nat.le_refl _) (.cells #[.int .i64 g, .int .i64 z] 84)
  have HLi : Hid (Li w a0 r k0) := row_li h.r0
  by_cases hf : 24 ≤ r.length + q.length
  · rw [fulB_yes hf]
    clear h
    go_enter Try.func65, Try.ntmps65
    go_wp2_with fail
    refine (full_any' _ p a0 a1 r.length k0 q.length k1 ((hb1.block p lp).trans H.out.blk) (by omega) (by omega)).mono ?_
    rintro e w1 ⟨rfl, hb⟩
    rw [fulB_yes hf]
    have hb2 := hb1.trans (hb.mono (by simp))
    go_wp2_with fail
    go_ret
    exact ⟨rfl, Or.inl ⟨hf, hb2⟩⟩
  · rw [fulB_no hf]
    clear h
    go_enter Try.func65, Try.ntmps65
    go_wp2_with fail
    refine (full_any' _ p a0 a1 r.length k0 q.length k1 ((hb1.block p lp).trans H.out.blk) (by omega) (by omega)).mono ?_
    rintro e w1 ⟨rfl, hb⟩
    rw [fulB_no hf]
    have hb2 := hb1.trans (hb.mono (by simp))
    have hl0 : w.heap.size < w1.heap.size := by have := hb.size; simp at this; omega
    have y0 : w1.cell? ⟨w.heap.size, 0, none⟩ = some (.int .i64 g) := (hb.cell (by simp)).trans (by simp)
    have y1 : w1.cell? ⟨w.heap.size, 1, none⟩ = some (.int .i64 z) := (hb.cell (by simp)).trans (by simp)
    have y2 := (hb2.cell (p := ⟨p, 0, none⟩) lp).trans c0
    have y3 := (hb2.frozen (p := ⟨p, 0, none⟩) lp).trans f0
    have lp1 : p < w1.heap.size := by omega
    have hLi1 := HLi.out.below hb2
    clear hb hb1
    go_wp2_with fail
    go_region_with (go_at_call 103; refine (with_any _ a0 r k0 g z (hLi1.below ((Below.refl _ _).drew)) (by omega)).mono ?_; rintro e w5 ⟨b1, cap1, rfl, hown, hb5⟩; have e4 := (hb5.cell (p := ⟨p, 0, none⟩) lp1).trans y2; have e5 := (hb5.frozen (p := ⟨p, 0, none⟩) lp1).trans y3)
    all_goals
      go_wp2_with fail
      go_ret
      refine ⟨rfl, Or.inr ⟨hf, b1, cap1, ?_⟩⟩
      have hbw : Below w.heap.size w w5 := hb2.drew.trans (hb5.mono (by simp; omega))
      have lb : w1.heap.size ≤ b1 := (row_lt hown b1 rfl).1
      have hS := H.out.below hbw
      have hfr : Fr (fun k => k = p) w (w5.setCell ⟨p, 0, none⟩ (.slice (some ⟨b1, 0, none⟩) (r.length + 1) cap1)) := (Fr.of hbw).set p 0 _ rfl
      have kk : ∀ k, k ≠ p → (w5.setCell ⟨p, 0, none⟩ (.slice (some ⟨b1, 0, none⟩) (r.length + 1) cap1)).heap[k]? = w5.heap[k]? := fun k hk => Below.heap_setCell _ _ _ _ hk
      refine ⟨⟨by simpa using set_fst hS.blk, ?_, row_keep hS.q0 (fun k e => kk k (hS.np hS.q0 k e))⟩, by omega, hfr⟩
      have := row_base (base' := 0) (row_keep (w' := w5.setCell ⟨p, 0, none⟩ (.slice (some ⟨b1, 0, none⟩) (r.length + 1) cap1)) hown (fun k e => kk k (hS.np hown k e))) (fun _ _ => Nat.zero_le _)
      simpa using this

end Go.Proofs.Ythlfgddhkffilaa
