/- The document's comparisons of two lists answer true where both hold the same numbers: contracts, over the seat's own translation; nothing that was in memory turns. -/
import Derived.Test.YthlfgddhkffilaaAr8
namespace Go.Proofs.Ythlfgddhkffilaa
open Go.RowKit W

/-- A slice's address is where these numbers lie (of none: wherever). -/
def Lies (w : World) (ad : Option Addr) (l : List Int) : Prop := 0 < l.length → ∃ b, ad = some ⟨b, 0, none⟩ ∧ ∀ i, i < l.length → w.cell? ⟨b, i, none⟩ = some (.int .i64 (l.getD i 0))

theorem Lies.below {w w' : World} {ad : Option Addr} {l : List Int} (h : Lies w ad l) (hb : Below w.heap.size w w') : Lies w' ad l := by
  intro hl
  obtain ⟨b, hb1, hc⟩ := h hl
  refine ⟨b, hb1, fun i hi => ?_⟩
  rw [hb.cell (p := ⟨b, i, none⟩) (World.block_lt_of_cell? w ⟨b, i, none⟩ (hc i hi)), hc i hi]

theorem lies_owned {w : World} {base : Nat} {e : TypeId} {v : Value} {l : List Int} (h : w.ownsRow base e 1 v l.length (l.map (Value.int .i64))) : ∃ ad cap, v = .slice ad l.length cap ∧ Lies w ad l := by
  rcases Nat.eq_zero_or_pos l.length with hz | hp
  · obtain ⟨_, h2⟩ := h
    rcases h2 with ⟨hv, _⟩ | ⟨b, cap, cur, hv, _⟩
    · exact ⟨none, 0, by rw [hz]; exact hv, fun h => by omega⟩
    · exact ⟨_, cap, hv, fun h => by omega⟩
  · obtain ⟨b, cap, hv, _, hc⟩ := owned_cells h hp
    exact ⟨_, cap, hv, fun _ => ⟨b, rfl, hc⟩⟩

set_option maxRecDepth 100000 in
set_option maxHeartbeats 1000000 in
theorem sameInts_pos (b1 b2 n c1 c2 : Nat) (l : List Int) (w : World) (hm : n ≤ 100000) (h1 : ∀ i, i < n → w.cell? ⟨b1, i, none⟩ = some (.int .i64 (l.getD i 0))) (h2 : ∀ i, i < n → w.cell? ⟨b2, i, none⟩ = some (.int .i64 (l.getD i 0))) :
    Calls Try.prog 48 #[.slice (some ⟨b1, 0, none⟩) n c1, .slice (some ⟨b2, 0, none⟩) n c2] w fun e w' => e = .returned (.bool true) ∧ Below w.heap.size w w' := by
  have H1 : Hid (∀ i, i < n → w.cell? ⟨b1, i, none⟩ = some (.int .i64 (l.getD i 0))) := h1
  have H2 : Hid (∀ i, i < n → w.cell? ⟨b2, i, none⟩ = some (.int .i64 (l.getD i 0))) := h2
  clear h1 h2
  go_enter Try.func48, Try.ntmps48
  go_wp2_with fail
  go_loopw [5] (fun i wr => ∃ k : Nat, k ≤ n ∧ i = .int .i64 k ∧ Below w.heap.size w wr) (fun i _ => n - (intOf i).toNat)
  case atStart => exact ⟨0, Nat.zero_le _, rfl, Below.refl _ _⟩
  case round =>
    obtain ⟨k, hk, rfl, hb⟩ := hrel
    by_cases hlt : k < n
    · have x1 : wr.cell? ⟨b1, k, none⟩ = some (.int .i64 (l.getD k 0)) := (hb.cell (p := ⟨b1, k, none⟩) (World.block_lt_of_cell? w _ (H1.out k hlt))).trans (H1.out k hlt)
      have x2 : wr.cell? ⟨b2, k, none⟩ = some (.int .i64 (l.getD k 0)) := (hb.cell (p := ⟨b2, k, none⟩) (World.block_lt_of_cell? w _ (H2.out k hlt))).trans (H2.out k hlt)
      generalize l.getD k 0 = x at x1 x2
      go_wp2_with fail
      go_quiet (fail)
      go_wp2_with fail
      go_roundw
      case rel => exact ⟨k + 1, by omega, by go_num, below_drewN hb _⟩
      case measure => simp [intOf]; omega
    · go_wp2_with fail
      go_ret
      exact ⟨rfl, hb⟩

set_option maxRecDepth 100000 in
set_option maxHeartbeats 400000 in
theorem sameInts_zero (a1 a2 : Option Addr) (c1 c2 : Nat) (w : World) :
    Calls Try.prog 48 #[.slice a1 0 c1, .slice a2 0 c2] w fun e w' => e = .returned (.bool true) ∧ Below w.heap.size w w' := by
  go_enter Try.func48, Try.ntmps48
  go_wp2_with fail
  go_loopw [5] (fun i wr => i = .int .i64 0 ∧ Below w.heap.size w wr) (fun _ _ => 0)
  case atStart => exact ⟨rfl, Below.refl _ _⟩
  case round =>
    obtain ⟨rfl, hb⟩ := hrel
    go_wp2_with fail
    go_ret
    exact ⟨rfl, hb⟩

theorem sameInts_any (a1 a2 : Option Addr) (c1 c2 : Nat) (l : List Int) (w : World) (hm : l.length ≤ 100000) (h1 : Lies w a1 l) (h2 : Lies w a2 l) :
    Calls Try.prog 48 #[.slice a1 l.length c1, .slice a2 l.length c2] w fun e w' => e = .returned (.bool true) ∧ Below w.heap.size w w' := by
  rcases Nat.eq_zero_or_pos l.length with hz | hp
  · rw [hz]; exact sameInts_zero a1 a2 c1 c2 w
  · obtain ⟨b1, rfl, k1⟩ := h1 hp
    obtain ⟨b2, rfl, k2⟩ := h2 hp
    exact sameInts_pos b1 b2 l.length c1 c2 l w hm k1 k2

set_option maxRecDepth 100000 in
set_option maxHeartbeats 1000000 in
theorem sameLongs_pos (b1 b2 n c1 c2 : Nat) (l : List Int) (w : World) (hm : n ≤ 100000) (h1 : ∀ i, i < n → w.cell? ⟨b1, i, none⟩ = some (.int .i64 (l.getD i 0))) (h2 : ∀ i, i < n → w.cell? ⟨b2, i, none⟩ = some (.int .i64 (l.getD i 0))) :
    Calls Try.prog 56 #[.slice (some ⟨b1, 0, none⟩) n c1, .slice (some ⟨b2, 0, none⟩) n c2] w fun e w' => e = .returned (.bool true) ∧ Below w.heap.size w w' := by
  have H1 : Hid (∀ i, i < n → w.cell? ⟨b1, i, none⟩ = some (.int .i64 (l.getD i 0))) := h1
  have H2 : Hid (∀ i, i < n → w.cell? ⟨b2, i, none⟩ = some (.int .i64 (l.getD i 0))) := h2
  clear h1 h2
  go_enter Try.func56, Try.ntmps56
  go_wp2_with fail
  go_loopw [5] (fun i wr => ∃ k : Nat, k ≤ n ∧ i = .int .i64 k ∧ Below w.heap.size w wr) (fun i _ => n - (intOf i).toNat)
  case atStart => exact ⟨0, Nat.zero_le _, rfl, Below.refl _ _⟩
  case round =>
    obtain ⟨k, hk, rfl, hb⟩ := hrel
    by_cases hlt : k < n
    · have x1 : wr.cell? ⟨b1, k, none⟩ = some (.int .i64 (l.getD k 0)) := (hb.cell (p := ⟨b1, k, none⟩) (World.block_lt_of_cell? w _ (H1.out k hlt))).trans (H1.out k hlt)
      have x2 : wr.cell? ⟨b2, k, none⟩ = some (.int .i64 (l.getD k 0)) := (hb.cell (p := ⟨b2, k, none⟩) (World.block_lt_of_cell? w _ (H2.out k hlt))).trans (H2.out k hlt)
      generalize l.getD k 0 = x at x1 x2
      go_wp2_with fail
      go_quiet (fail)
      go_wp2_with fail
      go_roundw
      case rel => exact ⟨k + 1, by omega, by go_num, below_drewN hb _⟩
      case measure => simp [intOf]; omega
    · go_wp2_with fail
      go_ret
      exact ⟨rfl, hb⟩

set_option maxRecDepth 100000 in
set_option maxHeartbeats 400000 in
theorem sameLongs_zero (a1 a2 : Option Addr) (c1 c2 : Nat) (w : World) :
    Calls Try.prog 56 #[.slice a1 0 c1, .slice a2 0 c2] w fun e w' => e = .returned (.bool true) ∧ Below w.heap.size w w' := by
  go_enter Try.func56, Try.ntmps56
  go_wp2_with fail
  go_loopw [5] (fun i wr => i = .int .i64 0 ∧ Below w.heap.size w wr) (fun _ _ => 0)
  case atStart => exact ⟨rfl, Below.refl _ _⟩
  case round =>
    obtain ⟨rfl, hb⟩ := hrel
    go_wp2_with fail
    go_ret
    exact ⟨rfl, hb⟩

theorem sameLongs_any (a1 a2 : Option Addr) (c1 c2 : Nat) (l : List Int) (w : World) (hm : l.length ≤ 100000) (h1 : Lies w a1 l) (h2 : Lies w a2 l) :
    Calls Try.prog 56 #[.slice a1 l.length c1, .slice a2 l.length c2] w fun e w' => e = .returned (.bool true) ∧ Below w.heap.size w w' := by
  rcases Nat.eq_zero_or_pos l.length with hz | hp
  · rw [hz]; exact sameLongs_zero a1 a2 c1 c2 w
  · obtain ⟨b1, rfl, k1⟩ := h1 hp
    obtain ⟨b2, rfl, k2⟩ := h2 hp
    exact sameLongs_pos b1 b2 l.length c1 c2 l w hm k1 k2

end Go.Proofs.Ythlfgddhkffilaa
