/- Concat of two lists of entries: a contract. -/
import Derived.Test.YthlfgddhkffilaaSd7
namespace Go.Proofs.Ythlfgddhkffilaa
open Go.RowKit W Kp Stl

set_option maxRecDepth 100000 in
set_option maxHeartbeats 1000000 in
theorem concat_any (w : World) (B : Nat) (l1 l2 : List En) (z1 z2 : Addr) (c1 c2 : Nat) (x0 : w.cell? ⟨B, 0, none⟩ = some (.slice (some z1) l1.length c1)) (x1 : w.cell? ⟨B, 1, none⟩ = some (.slice (some z2) l2.length c2)) (h1 : Lp w (some z1) l1) (h2 : Lp w (some z2) l2) (hm : l1.length + l2.length ≤ 100000) :
    Calls Try.prog 106 #[.slice (some ⟨B, 0, none⟩) 2 2] w fun e w' => ∃ a c, e = .returned (.slice a (l1.length + l2.length) c) ∧ w'.ownsRow w.heap.size 84 2 (.slice a (l1.length + l2.length) c) (l1.length + l2.length) (ev (l1 ++ l2)) ∧ Below w.heap.size w w' := by
  obtain ⟨i0, hi, hz0, hz1, hz2⟩ := info_parts infoEn
  have H1 : Hid (Lp w (some z1) l1) := h1
  have H2 : Hid (Lp w (some z2) l2) := h2
  have hB := World.block_lt_of_cell? w _ x0
  clear h1 h2
  go_enter Try.func106, Try.ntmps106
  go_wp2_with fail
  go_loopw [3, 11] (fun sv iv wr => wr = w ∧ ((iv = .int .i64 0 ∧ sv = .int .i64 0) ∨ (iv = .int .i64 1 ∧ sv = .int .i64 l1.length) ∨ (iv = .int .i64 2 ∧ sv = .int .i64 (l1.length + l2.length : Nat)))) (fun _ iv _ => 2 - (intOf iv).toNat)
  case atStart => exact ⟨rfl, Or.inl ⟨rfl, rfl⟩⟩
  case round =>
    obtain ⟨hw, ⟨rfl, rfl⟩ | ⟨rfl, rfl⟩ | ⟨rfl, rfl⟩⟩ := hrel
    all_goals
      have hw := hw.symm
      subst hw
    · go_wp2_with fail
      go_roundw
      case rel => exact ⟨trivial, Or.inr (Or.inl ⟨by go_num, by go_num⟩)⟩
      case measure => simp [intOf]
    · go_wp2_with fail
      go_roundw
      case rel => exact ⟨trivial, Or.inr (Or.inr ⟨by go_num, by go_num⟩)⟩
      case measure => simp [intOf]
    · go_wp2_with fail
      refine (grow_any w (l1.length + l2.length) hm).mono ?_
      rintro e w1 ⟨a1, d1, rfl, hown, hb⟩
      go_wp2_with fail
      go_loopw [6, 27] (fun vv iv wk => Below w.heap.size w wk ∧ ((∃ a c, iv = .int .i64 0 ∧ vv = .slice a 0 c ∧ wk.ownsRow w.heap.size 84 2 (.slice a 0 c) 0 []) ∨ (∃ a c, iv = .int .i64 1 ∧ vv = .slice a l1.length c ∧ wk.ownsRow w.heap.size 84 2 (.slice a l1.length c) l1.length (ev l1)) ∨ (∃ a c, iv = .int .i64 2 ∧ vv = .slice a (l1.length + l2.length) c ∧ wk.ownsRow w.heap.size 84 2 (.slice a (l1.length + l2.length) c) (l1.length + l2.length) (ev (l1 ++ l2))))) (fun _ iv _ => 2 - (intOf iv).toNat)
      case atStart => exact ⟨hb, Or.inl ⟨a1, d1, rfl, rfl, hown⟩⟩
      case round =>
        clear hown hb
        obtain ⟨hb, ⟨a, c, rfl, rfl, hown⟩ | ⟨a, c, rfl, rfl, hown⟩ | ⟨a, c, rfl, rfl, hown⟩⟩ := hrel
        · have y0 := (hb.cell (p := ⟨B, 0, none⟩) hB).trans x0
          have hs := hb.size
          go_wp2_with (at_builtin; refine wpList_append_own _ rfl _ _ 80 rfl w.heap.size 84 i0 (.agg #[.int .i64 0, .int .i64 0]) 2 16 Try.underlying80 hi hz0 hz1 hz2 rfl (by decide) (.slice a 0 c) 0 [] rfl hown z1 l1.length c1 (ev l1) rfl (ev_length l1) ((H1.out.below hb).cells z1 rfl) (ev_one l1) ?_ ?_ hs ?_; (unfold maxLen; omega); omega; intro v w2 hown2 hgrow2 _; rw [Nat.zero_add, List.nil_append] at hown2; obtain ⟨a2, d2, e2⟩ := row_slice hown2; subst e2)
          have hb2 := hb.grown hgrow2 hs (fun k e => (row_lt hown k e.symm).1)
          clear hb hgrow2
          go_wp2_with fail
          go_roundw
          case rel => exact ⟨hb2, Or.inr (Or.inl ⟨a2, d2, by go_num, rfl, hown2⟩)⟩
          case measure => simp [intOf]
        · have y0 := (hb.cell (p := ⟨B, 1, none⟩) hB).trans x1
          have hs := hb.size
          go_wp2_with (at_builtin; refine wpList_append_own _ rfl _ _ 80 rfl w.heap.size 84 i0 (.agg #[.int .i64 0, .int .i64 0]) 2 16 Try.underlying80 hi hz0 hz1 hz2 rfl (by decide) (.slice a l1.length c) l1.length (ev l1) rfl hown z2 l2.length c2 (ev l2) rfl (ev_length l2) ((H2.out.below hb).cells z2 rfl) (ev_one l2) ?_ ?_ hs ?_; (unfold maxLen; omega); omega; intro v w2 hown2 hgrow2 _; rw [← ev_append] at hown2; obtain ⟨a2, d2, e2⟩ := row_slice hown2; subst e2)
          have hb2 := hb.grown hgrow2 hs (fun k e => (row_lt hown k e.symm).1)
          clear hb hgrow2
          go_wp2_with fail
          go_roundw
          case rel => exact ⟨hb2, Or.inr (Or.inr ⟨a2, d2, by go_num, rfl, hown2⟩)⟩
          case measure => simp [intOf]
        · go_wp2_with fail
          go_ret
          exact ⟨a, c, rfl, hown, hb⟩

end Go.Proofs.Ythlfgddhkffilaa
