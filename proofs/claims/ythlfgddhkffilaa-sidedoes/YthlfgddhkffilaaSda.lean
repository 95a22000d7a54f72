/- Pop of a Side: a contract. -/
import Derived.Test.YthlfgddhkffilaaSd9
import Derived.Laws.EntriesVeiled
namespace Go.Proofs.Ythlfgddhkffilaa
open Go.RowKit W Kp Stl

theorem concat' (w : World) (B n1 n2 : Nat) (l1 l2 : List En) (z1 z2 : Addr) (c1 c2 : Nat) (e1 : l1.length = n1) (e2 : l2.length = n2) (x0 : w.cell? ⟨B, 0, none⟩ = some (.slice (some z1) n1 c1)) (x1 : w.cell? ⟨B, 1, none⟩ = some (.slice (some z2) n2 c2)) (h1 : Lp w (some z1) l1) (h2 : Lp w (some z2) l2) (hm : n1 + n2 ≤ 100000) :
    Calls Try.prog 106 #[.slice (some ⟨B, 0, none⟩) 2 2] w fun e w' => ∃ a c m, e = .returned (.slice a m c) ∧ Hid (m = n1 + n2) ∧ Hid (w'.ownsRow w.heap.size 84 2 (.slice a m c) m (ev (l1 ++ l2))) ∧ Below w.heap.size w w' := by
  subst e1
  subst e2
  refine (concat_any w B l1 l2 z1 z2 c1 c2 x0 x1 h1 h2 hm).mono ?_
  rintro e w' ⟨a, c, rfl, h3, h4⟩
  exact ⟨a, c, _, rfl, rfl, h3, h4⟩
theorem Lp.take {w : World} {ad : Option Addr} {q : List En} (h : Lp w ad q) (i : Nat) : Lp w ad (q.take i) := by
  intro hp
  simp only [List.length_take] at hp
  obtain ⟨b, o, e, hb, hc⟩ := h (by omega)
  refine ⟨b, o, e, hb, fun j hj => ?_⟩
  simp only [List.length_take] at hj
  have e2 : (q.take i).getD j (0, 0) = q.getD j (0, 0) := by rw [List.getD_eq_getElem?_getD, List.getD_eq_getElem?_getD, List.getElem?_take_of_lt (by omega)]
  rw [e2]
  exact hc j (by omega)
theorem Lp.drop {w : World} {b o : Nat} {q : List En} (h : Lp w (some ⟨b, o, none⟩) q) (i : Nat) : Lp w (some ⟨b, o + i * 2, none⟩) (q.drop i) := by
  intro hp
  simp only [List.length_drop] at hp
  obtain ⟨b', o', e, hb, hc⟩ := h (by omega)
  cases e
  refine ⟨b, o + i * 2, rfl, hb, fun j hj => ?_⟩
  simp only [List.length_drop] at hj
  have e2 : (q.drop i).getD j (0, 0) = q.getD (i + j) (0, 0) := by simp [List.getElem?_drop]
  have hx := hc (i + j) (by omega)
  rw [e2, show o + i * 2 + j * 2 = o + (i + j) * 2 by omega]
  exact hx

theorem ent_pop1 : Ent 105 := ent_of Try.func105 (by kernel_rfl) rfl

set_option maxRecDepth 100000 in
set_option maxHeartbeats 400000 in
theorem pop1_any (w : World) (B : Nat) (g : Int) (e : En) (h : w.cell? ⟨B, 0, none⟩ = some (.int .i64 g)) :
    Calls Try.prog 105 #[en e, .pointer (some ⟨B, 0, none⟩)] w fun r w' => r = .returned (.bool (e.1 == g)) ∧ Below w.heap.size w w' := by
  obtain ⟨x, y⟩ := e
  have hlt := World.block_lt_of_cell? w _ h
  have hb1 := (Below.refl w.heap.size w).alloc (Nat.le_refl _) (.cells #[.int .i64 x, .int .i64 y] 84)
  by_cases hx : x = g
  · subst hx
    go_enter Try.func105, Try.ntmps105
    go_wp2_with fail
    go_ret
    exact ⟨by simp, hb1⟩
  · go_enter Try.func105, Try.ntmps105
    go_wp2_with fail
    go_ret
    exact ⟨by simp, hb1⟩

theorem pop_end {w w1 w5 : World} {p b0 : Nat} {a0 a5 : Option Addr} {k0 k1 c5 i n : Nat} {r q : List En} (h : Sds w p a0 k0 (some ⟨b0, 0, none⟩) k1 r q) (hb2 : Below w.heap.size w w1) (hb5 : Below w1.heap.size w1 w5) (hown : w5.ownsRow w1.heap.size 84 2 (.slice a5 n c5) n (ev (q.take i ++ q.drop (i + 1)))) (hi : i < q.length) (hn : n + 1 = q.length) :
    Sds (w5.setCell ⟨p, 1, none⟩ (.slice a5 n c5)) p a0 k0 a5 c5 r (q.take i ++ q.drop (i + 1)) ∧ (∀ z, a5 = some z → w.heap.size ≤ z.block) ∧ Fr (fun k => k = p) w (w5.setCell ⟨p, 1, none⟩ (.slice a5 n c5)) := by
  have hbw : Below w.heap.size w w5 := hb2.trans (hb5.mono hb2.size)
  have hS := h.below hbw
  have hl : (q.take i ++ q.drop (i + 1)).length = n := by rw [List.length_append, List.length_take, List.length_drop]; omega
  have kk : ∀ k, k ≠ p → (w5.setCell ⟨p, 1, none⟩ (.slice a5 n c5)).heap[k]? = w5.heap[k]? := fun k hk => Below.heap_setCell _ _ _ _ hk
  refine ⟨⟨by rw [hl]; exact set_snd hS.blk, row_keep hS.r0 (fun k e => kk k (hS.np hS.r0 k e)), ?_⟩, fun z e => ?_, (Fr.of hbw).set p 1 _ rfl⟩
  · rw [hl]
    exact row_base (row_keep hown (fun k e => kk k (hS.np hown k e))) (fun _ _ => Nat.zero_le _)
  · have := (row_lt hown z.block (by rw [e]; rfl)).1
    have := hb2.size
    omega

set_option maxRecDepth 100000 in
set_option maxHeartbeats 1000000 in
theorem pop_any (w : World) (p : Nat) (a0 a1 : Option Addr) (k0 k1 : Nat) (r q : List En) (g : Int) (h : Sds w p a0 k0 a1 k1 r q) (h1 : q.length ≤ 90000) :
    Calls Try.prog 66 #[.pointer (some ⟨p, 0, none⟩), .int .i64 g] w fun e w' =>
      (e = .returned (.tuple #[.int .i64 0, .bool false]) ∧ (∀ e ∈ q, ¬ e.1 = g) ∧ Below w.heap.size w w') ∨
      (∃ (i : Nat) (b1 : Option Addr) (c1 : Nat), e = .returned (.tuple #[.int .i64 (q.getD i (0, 0)).2, .bool true]) ∧ i < q.length ∧ (q.getD i (0, 0)).1 = g ∧ (∀ e ∈ q.take i, ¬ e.1 = g) ∧ Sds w' p a0 k0 b1 c1 r (q.take i ++ q.drop (i + 1)) ∧ (∀ z, b1 = some z → w.heap.size ≤ z.block) ∧ Fr (fun k => k = p) w w') := by
  obtain ⟨c0, c1, f0, f1, lp⟩ := h.cells
  have H : Hid (Sds w p a0 k0 a1 k1 r q) := h
  have hb1 := (Below.refl w.heap.size w).alloc (Nat.le_refl _) (.cells #[.int .i64 g] 2)
  have y1 := (hb1.cell (p := ⟨p, 1, none⟩) lp).trans c1
  have P := index_any (fun _ => True) 105 #[] #[.pointer (some ⟨w.heap.size, 0, none⟩)] (fun e => e.1 == g) ent_pop1 (w.alloc (.cells #[.int .i64 g] 2)) (fun w' e _ hs hk => pop1_any w' w.heap.size g e ((World.cell?_of_block (a := ⟨w.heap.size, 0, none⟩) (hk _ (by simp))).trans (by simp))) q a1 k1 (fun _ _ => trivial) (by omega) ((row_pairs h.q0).below hb1)
  clear h c0 f0
  go_enter Try.func66, Try.ntmps66
  go_wp2_with fail
  refine P.mono ?_
  clear P
  rintro e w1 ⟨hb, ⟨rfl, hn⟩ | ⟨i, rfl, hi, ht, hn⟩⟩
  · have HN : Hid (∀ e ∈ q, ¬ e.1 = g) := fun e he => by simpa using hn e he
    have hb2 := hb1.trans (hb.mono (by simp))
    clear hb hn
    go_wp2_with fail
    go_ret2
    exact Or.inl ⟨rfl, HN.out, hb2⟩
  · have HN : Hid (∀ e ∈ q.take i, ¬ e.1 = g) := fun e he => by simpa using hn e he
    have HT : Hid ((q.getD i (0, 0)).1 = g) := by show _ = _; simpa using ht
    obtain ⟨z, Hz⟩ : ∃ z, Hid (z = (q.getD i (0, 0)).2) := ⟨_, rfl⟩
    have hb2 := hb1.trans (hb.mono (by simp))
    have hsz := hb2.size
    have hS := H.out.below hb2
    obtain ⟨d0, d1, e0, e1, lp1⟩ := hS.cells
    have hLi := row_li hS.q0
    obtain ⟨b0, cap, hshape⟩ := row_shape hS.q0 (by omega)
    simp at hshape
    obtain ⟨rfl, rfl⟩ := hshape
    have hle := hLi.le
    have hmx : k1 ≤ maxLen := by
      rcases hS.q0.2 with ⟨_, h0⟩ | ⟨g, cap', cur, hv, _, _, _, hc, _⟩
      · omega
      · simp at hv; omega
    unfold maxLen at hmx
    obtain ⟨b0', o0', e0', hb0, hc⟩ := hLi.lp (by omega)
    cases e0'
    have x2 := (hc i hi).2
    rw [Nat.zero_add, ← Hz.out] at x2
    have i0 : (0 : Int) ≤ (i : Int) := by omega
    have i1 : (i : Int) < (q.length : Int) := by omega
    have HS : Hid (Sds w1 p a0 k0 (some ⟨b0, 0, none⟩) k1 r q) := hS
    clear hb hn hb1 hc hS ht
    have HP : Hid (Lp w1 (some ⟨b0, 0, none⟩) q) := hLi.lp
    have ht1 : Hid ((q.take i).length = i) := by show _ = _; rw [List.length_take]; omega
    have i2 : (i : Int) ≤ (k1 : Int) := by omega
    have i3 : IntKind.i64.wrap ((i : Int) + 1) = (i : Int) + 1 := by rw [IntKind.wrap_i64]; omega
    have i4 : (0 : Int) ≤ (i : Int) + 1 := by omega
    have i5 : (i : Int) + 1 ≤ (q.length : Int) := by omega
    have i6 : ((i : Int) + 1).toNat = i + 1 := by omega
    have i7 : (i : Int).toNat = i := by omega
    by_cases hk : i + 1 = k1
    · subst hk
      have hz : q.length - (i + 1) = 0 := by omega
      have hbd := ((Below.refl w1.heap.size w1).alloc (Nat.le_refl _) (.cells #[.slice (some ⟨b0, 0, none⟩) i (i + 1), .slice (some ⟨b0, 0, none⟩) 0 0] 80)).drew
      have ht2 : Hid ((q.drop (i + 1)).length = 0) := by show _ = _; rw [List.length_drop]; omega
      have hL2 : Lp (w1.alloc (.cells #[.slice (some ⟨b0, 0, none⟩) i (i + 1), .slice (some ⟨b0, 0, none⟩) 0 0] 80)).drew (some ⟨b0, 0, none⟩) (q.drop (i + 1)) := fun h => by rw [List.length_drop] at h; omega
      go_wp2_with fail
      go_region_with (go_at_call 106; refine (concat' _ w1.heap.size i (0) (q.take i) (q.drop (i + 1)) ⟨b0, 0, none⟩ ⟨b0, 0, none⟩ (i + 1) (0) ht1.out ht2.out (by simp) (by simp) ((HP.out.take i).below hbd) (hL2) (by omega)).mono ?_; rintro e w5 ⟨a5, c5, m5, rfl, hm5, hown, hb5⟩; have e4 := (hb5.cell (p := ⟨p, 1, none⟩) (by simp; omega)).trans ((hbd.cell (p := ⟨p, 1, none⟩) lp1).trans d1); have e5 := (hb5.frozen (p := ⟨p, 1, none⟩) (by simp; omega)).trans ((hbd.frozen (p := ⟨p, 1, none⟩) lp1).trans e1))
      all_goals
        go_wp2_with fail
        go_ret2
        refine Or.inr ⟨i, a5, c5, by rw [← Hz.out]; rfl, hi, HT.out, HN.out, ?_⟩
        have hb5' : Below w1.heap.size w1 w5 := hbd.trans (hb5.mono (by simp))
        exact pop_end H.out hb2 hb5' (row_base hown.out (fun k e => by have := (row_lt hown.out k e).1; simp at this; omega)) hi (by have := hm5.out; omega)
    · have hk2 : ¬ k1 = i + 1 := fun e => hk e.symm
      have hbd := ((Below.refl w1.heap.size w1).alloc (Nat.le_refl _) (.cells #[.slice (some ⟨b0, 0, none⟩) i k1, .slice (some ⟨b0, (i + 1) * 2, none⟩) (q.length - (i + 1)) (k1 - (i + 1))] 80)).drew
      have ht2 : Hid ((q.drop (i + 1)).length = q.length - (i + 1)) := List.length_drop
      have hL0 := (HP.out.drop (i + 1)).below hbd
      rw [Nat.zero_add] at hL0
      have HL2 : Hid (Lp (w1.alloc (.cells #[.slice (some ⟨b0, 0, none⟩) i k1, .slice (some ⟨b0, (i + 1) * 2, none⟩) (q.length - (i + 1)) (k1 - (i + 1))] 80)).drew (some ⟨b0, (i + 1) * 2, none⟩) (q.drop (i + 1))) := hL0
      clear hL0
      go_wp2_with fail
      go_region_with (go_at_call 106; refine (concat' _ w1.heap.size i (q.length - (i + 1)) (q.take i) (q.drop (i + 1)) ⟨b0, 0, none⟩ ⟨b0, (i + 1) * 2, none⟩ k1 (k1 - (i + 1)) ht1.out ht2.out (by simp) (by simp) ((HP.out.take i).below hbd) (HL2.out) (by omega)).mono ?_; rintro e w5 ⟨a5, c5, m5, rfl, hm5, hown, hb5⟩; have e4 := (hb5.cell (p := ⟨p, 1, none⟩) (by simp; omega)).trans ((hbd.cell (p := ⟨p, 1, none⟩) lp1).trans d1); have e5 := (hb5.frozen (p := ⟨p, 1, none⟩) (by simp; omega)).trans ((hbd.frozen (p := ⟨p, 1, none⟩) lp1).trans e1))
      all_goals
        go_wp2_with fail
        go_ret2
        refine Or.inr ⟨i, a5, c5, by rw [← Hz.out]; rfl, hi, HT.out, HN.out, ?_⟩
        have hb5' : Below w1.heap.size w1 w5 := hbd.trans (hb5.mono (by simp))
        exact pop_end H.out hb2 hb5' (row_base hown.out (fun k e => by have := (row_lt hown.out k e).1; simp at this; omega)) hi (by have := hm5.out; omega)

end Go.Proofs.Ythlfgddhkffilaa
