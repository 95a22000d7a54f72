/- The statements' own comparisons and bounds of lists of entries: contracts, over the seat's own translation. -/
import Derived.Test.YthlfgddhkffilaaSm1
namespace Go.Proofs.Ythlfgddhkffilaa
open Go.RowKit W Kp Stl

set_option maxRecDepth 100000 in
set_option maxHeartbeats 1000000 in
theorem sameEntries_pos (b1 o1 b2 o2 c1 c2 : Nat) (l : List En) (w : World) (hm : l.length ≤ 100000)
    (h1 : ∀ i, i < l.length → w.cell? ⟨b1, o1 + i * 2, none⟩ = some (.int .i64 (l.getD i (0, 0)).1) ∧ w.cell? ⟨b1, o1 + i * 2 + 1, none⟩ = some (.int .i64 (l.getD i (0, 0)).2))
    (h2 : ∀ i, i < l.length → w.cell? ⟨b2, o2 + i * 2, none⟩ = some (.int .i64 (l.getD i (0, 0)).1) ∧ w.cell? ⟨b2, o2 + i * 2 + 1, none⟩ = some (.int .i64 (l.getD i (0, 0)).2)) :
    Calls Try.prog 69 #[.slice (some ⟨b1, o1, none⟩) l.length c1, .slice (some ⟨b2, o2, none⟩) l.length c2] w fun e w' => e = .returned (.bool true) ∧ Below w.heap.size w w' := by
  have H1 : Hid (∀ i, i < l.length → w.cell? ⟨b1, o1 + i * 2, none⟩ = some (.int .i64 (l.getD i (0, 0)).1) ∧ w.cell? ⟨b1, o1 + i * 2 + 1, none⟩ = some (.int .i64 (l.getD i (0, 0)).2)) := h1
  have H2 : Hid (∀ i, i < l.length → w.cell? ⟨b2, o2 + i * 2, none⟩ = some (.int .i64 (l.getD i (0, 0)).1) ∧ w.cell? ⟨b2, o2 + i * 2 + 1, none⟩ = some (.int .i64 (l.getD i (0, 0)).2)) := h2
  clear h1 h2
  go_enter Try.func69, Try.ntmps69
  go_wp2_with fail
  go_loopw [5] (fun i wr => ∃ k : Nat, k ≤ l.length ∧ i = .int .i64 k ∧ Below w.heap.size w wr) (fun i _ => l.length - (intOf i).toNat)
  case atStart => exact ⟨0, Nat.zero_le _, rfl, Below.refl _ _⟩
  case round =>
    obtain ⟨k, hk, rfl, hb⟩ := hrel
    by_cases hlt : k < l.length
    · obtain ⟨u1, u2⟩ := H1.out k hlt
      obtain ⟨u3, u4⟩ := H2.out k hlt
      have x1 := (hb.cell (World.block_lt_of_cell? w _ u1)).trans u1
      have x2 := (hb.cell (World.block_lt_of_cell? w _ u2)).trans u2
      have x3 := (hb.cell (World.block_lt_of_cell? w _ u3)).trans u3
      have x4 := (hb.cell (World.block_lt_of_cell? w _ u4)).trans u4
      generalize (l.getD k (0, 0)).1 = x at x1 x3
      generalize (l.getD k (0, 0)).2 = y at x2 x4
      clear u1 u2 u3 u4
      go_wp2_with fail
      go_quiet (fail)
      go_wp2_with fail
      go_roundw
      case rel => exact ⟨k + 1, by omega, by go_num, below_drewN hb _⟩
      case measure => simp [intOf]; omega
    · go_wp2_with fail
      go_ret
      exact ⟨rfl, hb⟩

set_option maxRecDepth 100000 in
set_option maxHeartbeats 400000 in
theorem sameEntries_zero (a1 a2 : Option Addr) (c1 c2 : Nat) (w : World) :
    Calls Try.prog 69 #[.slice a1 0 c1, .slice a2 0 c2] w fun e w' => e = .returned (.bool true) ∧ Below w.heap.size w w' := by
  go_enter Try.func69, Try.ntmps69
  go_wp2_with fail
  go_loopw [5] (fun i wr => i = .int .i64 0 ∧ Below w.heap.size w wr) (fun _ _ => 0)
  case atStart => exact ⟨rfl, Below.refl _ _⟩
  case round =>
    obtain ⟨rfl, hb⟩ := hrel
    go_wp2_with fail
    go_ret
    exact ⟨rfl, hb⟩

theorem sameEntries_any (a1 a2 : Option Addr) (c1 c2 : Nat) (l : List En) (w : World) (hm : l.length ≤ 100000) (h1 : Lp w a1 l) (h2 : Lp w a2 l) :
    Calls Try.prog 69 #[.slice a1 l.length c1, .slice a2 l.length c2] w fun e w' => e = .returned (.bool true) ∧ Below w.heap.size w w' := by
  rcases Nat.eq_zero_or_pos l.length with hz | hp
  · rw [hz]; exact sameEntries_zero a1 a2 c1 c2 w
  · obtain ⟨b1, o1, rfl, _, k1⟩ := h1 hp
    obtain ⟨b2, o2, rfl, _, k2⟩ := h2 hp
    exact sameEntries_pos b1 o1 b2 o2 c1 c2 l w hm k1 k2

set_option maxRecDepth 100000 in
set_option maxHeartbeats 1000000 in
theorem great_any (a0 a1 a2 a3 : Option Addr) (n0 n1 n2 n3 c0 c1 c2 c3 : Nat) (w : World) :
    Calls Try.prog 71 #[.slice a0 n0 c0, .slice a1 n1 c1, .slice a2 n2 c2, .slice a3 n3 c3] w fun e w' => e = .returned (.bool (decide ((60 : Int) < n0) || decide ((60 : Int) < n1) || decide ((100 : Int) < n2) || decide ((100 : Int) < n3))) ∧ w' = w := by
  go_enter Try.func71, Try.ntmps71
  go_wp2_with fail
  all_goals
    go_ret
    exact ⟨rfl, rfl⟩

/-- Words from 0 to 999. -/
def Sml (l : List En) : Prop := ∀ e ∈ l, 0 ≤ e.1 ∧ e.1 ≤ 999 ∧ 0 ≤ e.2 ∧ e.2 ≤ 999
instance (l : List En) : Decidable (Sml l) := by unfold Sml; infer_instance
/-- Are they? -/
def smB (r q : List En) : Bool := decide (Sml r ∧ Sml q)
theorem smB_yes {r q : List En} (h : smB r q = true) : Sml r ∧ Sml q := by simpa [smB] using h
theorem smB_no {l : List En} {k : Nat} (hlt : k < l.length) (hs : ¬ (0 ≤ (l.getD k (0, 0)).1 ∧ (l.getD k (0, 0)).1 ≤ 999 ∧ 0 ≤ (l.getD k (0, 0)).2 ∧ (l.getD k (0, 0)).2 ≤ 999)) : ¬ Sml l := by
  intro h
  have hd : l.getD k (0, 0) = l[k] := by simp [List.getElem?_eq_getElem hlt]
  rw [hd] at hs
  exact hs (h _ (List.getElem_mem hlt))

set_option maxRecDepth 100000 in
set_option maxHeartbeats 2000000 in
theorem small_any (a0 a1 a2 a3 : Option Addr) (r q : List En) (n2 n3 c0 c1 c2 c3 : Nat) (w : World) (hr : r.length ≤ 60) (hq : q.length ≤ 60) (h0 : Lp w a0 r) (h1 : Lp w a1 q) :
    Calls Try.prog 72 #[.slice a0 r.length c0, .slice a1 q.length c1, .slice a2 n2 c2, .slice a3 n3 c3] w fun e w' => e = .returned (.bool (smB r q)) ∧ w' = w := by
  generalize ht : smB r q = t
  have HT : Hid (smB r q = t) := ht
  clear ht
  have H0 : Hid (Lp w a0 r) := h0
  have H1 : Hid (Lp w a1 q) := h1
  clear h0 h1
  go_enter Try.func72, Try.ntmps72
  go_wp2_with fail
  go_loopw [9] (fun i wr => ∃ k : Nat, k ≤ r.length ∧ i = .int .i64 k ∧ wr = w ∧ Hid (Sml (r.take k))) (fun i _ => r.length - (intOf i).toNat)
  case atStart => exact ⟨0, Nat.zero_le _, rfl, rfl, fun e he => by simp at he⟩
  case round =>
    obtain ⟨k, hk, rfl, hw, HK⟩ := hrel
    have hw := hw.symm
    subst hw
    by_cases hlt : k < r.length
    · obtain ⟨bb, of, rfl, _, hc⟩ := H0.out (by omega)
      obtain ⟨x1, x2⟩ := hc k hlt
      clear hc
      have hd : r.getD k (0, 0) = r[k] := by simp [List.getElem?_eq_getElem hlt]
      have HD : Hid (r.getD k (0, 0) = r[k]) := hd
      clear hd
      by_cases hs : 0 ≤ (r.getD k (0, 0)).1 ∧ (r.getD k (0, 0)).1 ≤ 999 ∧ 0 ≤ (r.getD k (0, 0)).2 ∧ (r.getD k (0, 0)).2 ≤ 999
      · have HK' : Hid (Sml (r.take (k + 1))) := fun e he => by
          rw [List.take_add_one, List.getElem?_eq_getElem hlt] at he
          rcases List.mem_append.1 he with he | he
          · exact HK.out e he
          · simp at he; subst he; rw [HD.out] at hs; exact hs
        obtain ⟨s1, s2, s3, s4⟩ := hs
        clear HD
        generalize (r.getD k (0, 0)).1 = u at x1 s1 s2
        generalize (r.getD k (0, 0)).2 = v at x2 s3 s4
        go_wp2_with fail
        go_roundw
        case rel => exact ⟨k + 1, by omega, by go_num, trivial, HK'⟩
        case measure => simp [intOf]; omega
      · have hf : t = false := by rw [← HT.out]; simp [smB, smB_no hlt hs]
        subst hf
        clear HD
        generalize (r.getD k (0, 0)).1 = u at x1 hs
        generalize (r.getD k (0, 0)).2 = v at x2 hs
        go_wp2_with fail
        all_goals
          go_ret
          exact ⟨rfl, rfl⟩
    · have HR : Hid (Sml r) := by
        have := HK.out
        rw [List.take_of_length_le (by omega)] at this
        exact this
      clear HK
      go_wp2_with fail
      clear hlt hk
      go_loopw [10] (fun i wr => ∃ k : Nat, k ≤ q.length ∧ i = .int .i64 k ∧ wr = w ∧ Hid (Sml (q.take k))) (fun i _ => q.length - (intOf i).toNat)
      case atStart => exact ⟨0, Nat.zero_le _, rfl, rfl, fun e he => by simp at he⟩
      case round =>
        obtain ⟨k, hk, rfl, hw, HK⟩ := hrel
        have hw := hw.symm
        subst hw
        by_cases hlt : k < q.length
        · obtain ⟨bb, of, rfl, _, hc⟩ := H1.out (by omega)
          obtain ⟨x1, x2⟩ := hc k hlt
          clear hc
          have HD : Hid (q.getD k (0, 0) = q[k]) := by simp [Hid, List.getElem?_eq_getElem hlt]
          by_cases hs : 0 ≤ (q.getD k (0, 0)).1 ∧ (q.getD k (0, 0)).1 ≤ 999 ∧ 0 ≤ (q.getD k (0, 0)).2 ∧ (q.getD k (0, 0)).2 ≤ 999
          · have HK' : Hid (Sml (q.take (k + 1))) := fun e he => by
              rw [List.take_add_one, List.getElem?_eq_getElem hlt] at he
              rcases List.mem_append.1 he with he | he
              · exact HK.out e he
              · simp at he; subst he; rw [HD.out] at hs; exact hs
            obtain ⟨s1, s2, s3, s4⟩ := hs
            clear HD
            generalize (q.getD k (0, 0)).1 = u at x1 s1 s2
            generalize (q.getD k (0, 0)).2 = v at x2 s3 s4
            go_wp2_with fail
            go_roundw
            case rel => exact ⟨k + 1, by omega, by go_num, trivial, HK'⟩
            case measure => simp [intOf]; omega
          · have hf : t = false := by rw [← HT.out]; simp [smB, smB_no hlt hs]
            subst hf
            clear HD
            generalize (q.getD k (0, 0)).1 = u at x1 hs
            generalize (q.getD k (0, 0)).2 = v at x2 hs
            go_wp2_with fail
            all_goals
              go_ret
              exact ⟨rfl, rfl⟩
        · have HQ : Hid (Sml q) := by
            have := HK.out
            rw [List.take_of_length_le (by omega)] at this
            exact this
          clear HK
          have hf : t = true := by rw [← HT.out]; simp [smB, HR.out, HQ.out]
          subst hf
          go_wp2_with fail
          go_ret
          exact ⟨rfl, rfl⟩

end Go.Proofs.Ythlfgddhkffilaa
