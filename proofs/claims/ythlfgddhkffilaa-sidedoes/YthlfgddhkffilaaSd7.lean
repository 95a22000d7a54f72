/- Library functions over lists of entries: Grow, Concat, IndexFunc: contracts. -/
import Derived.Test.YthlfgddhkffilaaSd2
import Derived.Lib.AppendZeros
namespace Go.Proofs.Ythlfgddhkffilaa
open Go.RowKit W Kp Stl

theorem zeros_len (z : Value) (n : Nat) (hz : z.cells.size = 2) : (Builtin.zeroCells z.cells n).size = n * 2 := by rw [size_zeroCells, hz]

set_option maxRecDepth 100000 in
set_option maxHeartbeats 400000 in
theorem grow_any (w : World) (n : Nat) (hn : n ≤ 100000) :
    Calls Try.prog 120 #[.slice none 0 0, .int .i64 n] w fun e w' => ∃ a1 c1, e = .returned (.slice a1 0 c1) ∧ w'.ownsRow w.heap.size 84 2 (.slice a1 0 c1) 0 [] ∧ Below w.heap.size w w' := by
  obtain ⟨i0, hi, hz0, hz1, hz2⟩ := info_parts infoEn
  rcases Nat.eq_zero_or_pos n with h0 | h0
  · subst h0
    go_enter Try.func120, Try.ntmps120
    go_wp2_with fail
    go_ret
    exact ⟨none, 0, rfl, World.ownsRow_nil _ _ _ _, Below.refl _ _⟩
  · have hr := Lib.run_append_nil_zeros (P := Try.prog) w 80 3 80 84 i0 (.agg #[.int .i64 0, .int .i64 0]) .i64 .i64 Try.underlying80 Try.underlying3 hi hz0 n h0 (by rw [hz1]; decide) (by omega) (by rw [hz2]; omega)
    have hge := grownCap_ge w n 0 84
    have hcm : grownCap w n 0 84 ≤ maxLen := grownCap_le_maxLen w n 0 84 (by unfold maxLen; omega)
    generalize grownCap w n 0 84 = g at hr hge hcm
    have hown : (w.drew.alloc (.cells (Builtin.zeroCells (Value.agg #[.int .i64 0, .int .i64 0]).cells n ++ Builtin.zeroCells (Value.agg #[.int .i64 0, .int .i64 0]).cells (g - n)) 84)).ownsRow w.heap.size 84 2 (.slice (some ⟨w.heap.size, 0, none⟩) 0 g) 0 [] :=
      World.ownsRow_made w.drew _ g (Nat.le_refl _) hcm (by rw [Array.size_append, zeros_len _ _ rfl, zeros_len _ _ rfl]; omega)
    have hb : Below w.heap.size w (w.drew.alloc (.cells (Builtin.zeroCells (Value.agg #[.int .i64 0, .int .i64 0]).cells n ++ Builtin.zeroCells (Value.agg #[.int .i64 0, .int .i64 0]).cells (g - n)) 84)) := (Below.refl _ w).drew.alloc (Nat.le_refl _) _
    generalize w.drew.alloc (.cells (Builtin.zeroCells (Value.agg #[.int .i64 0, .int .i64 0]).cells n ++ Builtin.zeroCells (Value.agg #[.int .i64 0, .int .i64 0]).cells (g - n)) 84) = w1 at hr hown hb
    go_enter Try.func120, Try.ntmps120
    go_wp2_with (at_builtin; refine Lib.wpList_append_run _ rfl _ _ _ _ rfl _ _ rfl rfl _ _ hr ?_)
    go_wp2_with fail
    go_ret
    exact ⟨_, _, rfl, hown, hb⟩

set_option maxRecDepth 100000 in
set_option maxHeartbeats 400000 in
theorem index_any (D : En → Prop) (f : Nat) (b c : Array Value) (p : En → Bool) (hf : Ent f) (w : World)
    (hl : ∀ (w' : World) (e : En), D e → w.heap.size ≤ w'.heap.size → (∀ k, k < w.heap.size → w'.heap[k]? = w.heap[k]?) → Calls Try.prog f (b.push (en e) ++ c) w' fun r w'' => r = .returned (.bool (p e)) ∧ Below w'.heap.size w' w'')
    (l : List En) (ad : Option Addr) (cap : Nat) (hD : ∀ e ∈ l, D e) (hm : l.length ≤ 100000) (hp : Lp w ad l) :
    Calls Try.prog 104 #[.slice ad l.length cap, .func (.func f) b c] w fun r w' => Below w.heap.size w w' ∧ ((r = .returned (.int .i64 (-1)) ∧ ∀ e ∈ l, p e = false) ∨ ∃ i : Nat, r = .returned (.int .i64 i) ∧ i < l.length ∧ p (l.getD i (0, 0)) = true ∧ ∀ e ∈ l.take i, p e = false) := by
  have HL : Hid (∀ (w' : World) (e : En), D e → w.heap.size ≤ w'.heap.size → (∀ k, k < w.heap.size → w'.heap[k]? = w.heap[k]?) → Calls Try.prog f (b.push (en e) ++ c) w' fun r w'' => r = .returned (.bool (p e)) ∧ Below w'.heap.size w' w'') := hl
  have HP : Hid (Lp w ad l) := hp
  have HD : Hid (∀ e ∈ l, D e) := hD
  have hcf : ∀ (args : Array Value) (w : World), (callFunc f args).run Try.prog w = .ok (.enter f args) w := hf
  clear hl hp hf hD
  go_enter Try.func104, Try.ntmps104
  go_wp2_with fail
  go_loopw [8] (fun iv wr => ∃ j : Nat, j ≤ l.length ∧ iv = .int .i64 j ∧ Hid (∀ e ∈ l.take j, p e = false) ∧ Below w.heap.size w wr) (fun iv _ => l.length - (intOf iv).toNat)
  case atStart => exact ⟨0, Nat.zero_le _, rfl, by simp [Hid], Below.refl _ _⟩
  case round =>
    obtain ⟨j, hj, rfl, HE, hb⟩ := hrel
    by_cases hlt : j < l.length
    · obtain ⟨b0, o0, e0, hb0, hc⟩ := HP.out.below hb (by omega)
      obtain ⟨x1, x2⟩ := hc j hlt
      have HG : Hid (l.getD j (0, 0) = ((l.getD j (0, 0)).1, (l.getD j (0, 0)).2)) := rfl
      have hd : D (l.getD j (0, 0)) := HD.out _ (by rw [List.getD_eq_getElem?_getD, List.getElem?_eq_getElem hlt]; exact List.getElem_mem hlt)
      have hd : D ((l.getD j (0, 0)).1, (l.getD j (0, 0)).2) := hd
      obtain ⟨g, hg⟩ : ∃ g, g = (l.getD j (0, 0)).1 := ⟨_, rfl⟩
      obtain ⟨z, hz⟩ : ∃ z, z = (l.getD j (0, 0)).2 := ⟨_, rfl⟩
      rw [← hg] at x1 hd HG
      rw [← hz] at x2 hd HG
      clear hc hg hz
      subst e0
      go_wp2_with fail
      refine (HL.out wr (g, z) hd hb.size hb.block).mono ?_
      rintro r w1 ⟨rfl, hb1⟩
      have hb2 := hb.trans (hb1.mono hb.size)
      clear hb hb1
      cases hp : p (g, z)
      · have HE' : Hid (∀ e ∈ l.take (j + 1), p e = false) := fun e he => by
          rw [take_snoc l j hlt (0, 0), List.mem_append, List.mem_singleton] at he
          rcases he with he | he
          · exact HE.out e he
          · rw [he, HG.out]; exact hp
        clear hp
        go_wp2_with fail
        go_roundw
        case rel => exact ⟨j + 1, by omega, by go_num, HE', hb2⟩
        case measure => simp [intOf]; omega
      · have HPt : Hid (p (l.getD j (0, 0)) = true) := by show _ = _; rw [HG.out]; exact hp
        clear hp
        go_wp2_with fail
        go_ret
        exact ⟨hb2, Or.inr ⟨j, rfl, hlt, HPt.out, HE.out⟩⟩
    · obtain rfl : j = l.length := by omega
      rw [List.take_length] at HE
      go_wp2_with fail
      go_ret
      exact ⟨hb, Or.inl ⟨rfl, HE.out⟩⟩

end Go.Proofs.Ythlfgddhkffilaa
