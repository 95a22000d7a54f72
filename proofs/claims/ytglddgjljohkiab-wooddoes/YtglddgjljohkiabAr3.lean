/- What Make of package arena does: a contract, over the seat's own translation; no block but the arena's turns. -/
import Derived.Test.YtglddgjljohkiabAr2
namespace Go.Proofs.Ytglddgjljohkiab
open Go.RowKit W

/-- The words with a first word at a place, and so many fields behind it that are Nil. -/
def fil (ws : List Int) (y : Nat) (hd : Int) : Nat → List Int
  | 0 => ws.set y hd
  | k + 1 => (fil ws y hd k).set (y + 1 + k) 2

set_option maxRecDepth 100000 in
set_option maxHeartbeats 1000000 in
theorem make_yes {p q N O y g : Nat} {ws : List Int} (k f : Int) (w : World) (h : At w p q N O y g ws) (hk : hc k f = 0) (hr : f + 1 ≤ (N : Int) - y) :
    Calls Try.prog 19 #[.pointer (some ⟨p, 0, none⟩), .int .i64 k, .int .i64 f] w fun e w' => e = .returned (.int .i64 y) ∧ At w' p q N O (y + 1 + f.toNat) g (fil ws y (hw k f) f.toNat) ∧ Sv p q w w' := by
  obtain ⟨_, _, f0, f1⟩ := hc_bd k f hk
  obtain ⟨f, rfl⟩ := Int.eq_ofNat_of_zero_le f0
  simp only [Int.toNat_natCast]
  have H : Hid (hc k f = 0) := hk
  clear hk
  have k1 := h.hN'
  have k2 := h.hy
  have k3 := h.hO
  have k4 := h.hg
  go_enter Try.func19, Try.ntmps19
  go_wp2_with fail
  refine (head_any k f _).mono ?_
  rintro e w1 ⟨rfl, rfl⟩
  rw [H.out]
  obtain ⟨c0, c1, c2, c3, c4, c5, c6⟩ := h.cells
  go_wp2_with fail
  refine (takeY_yes (1 + f) _ h (by omega) (by omega)).mono ?_
  rintro e w2 ⟨rfl, h2, s2⟩
  rw [show (1 + (f : Int)).toNat = 1 + f by omega] at h2
  obtain ⟨c0, c1, c2, c3, c4, c5, c6⟩ := h2.cells
  have cw := h2.word y (by omega)
  have cf := h2.frozenq y
  have b1 : (y : Int) < ((N + O : Nat) : Int) := by omega
  go_wp2_with fail
  go_loopw [39] (fun i wr => ∃ j : Nat, j ≤ f ∧ i = .int .i64 j ∧ At wr p q N O (y + (1 + f)) g (fil ws y (hw k f) j) ∧ Sv p q w1 wr) (fun i _ => f - (intOf i).toNat)
  case atStart => exact ⟨0, Nat.zero_le _, rfl, h2.set y _, s2.trans (Sv.setq _ _)⟩
  case round =>
    obtain ⟨j, hj, rfl, hA, hS⟩ := hrel
    clear c0 c1 c2 c3 c4 c5 c6 cw cf
    obtain ⟨c0, c1, c2, c3, c4, c5, c6⟩ := hA.cells
    by_cases hlt : j < f
    · have cw := hA.word (y + 1 + j) (by omega)
      have cf := hA.frozenq (y + 1 + j)
      have b2 : (y : Int) + 1 + j < ((N + O : Nat) : Int) := by omega
      go_wp2_with fail
      have b3 : (0 : Int) ≤ (y : Int) + 1 + j := by omega
      have b4 : ((y : Int) + 1 + j).toNat = y + 1 + j := by omega
      have b5 : (y : Int) + 1 + j < (N : Int) + O := by omega
      have b6 : IntKind.i64.wrap ((y : Int) + 1) = (y : Int) + 1 := by rw [IntKind.wrap_i64]; omega
      have b7 : IntKind.i64.wrap ((y : Int) + 1 + j) = (y : Int) + 1 + j := by rw [IntKind.wrap_i64]; omega
      go_region_with (go_at_call 57; refine (nil_any _).mono ?_; rintro e w3 ⟨rfl, rfl⟩)
      all_goals
        go_wp2_with fail
        go_roundw
        case rel => exact ⟨j + 1, by omega, by go_num, hA.drew.set _ _, hS.drew.trans (Sv.setq _ _)⟩
        case measure => simp [intOf]; omega
    · go_wp2_with fail
      go_ret
      have e : j = f := by omega
      subst e
      exact ⟨rfl, by rw [Nat.add_assoc]; exact hA, hS⟩

set_option maxRecDepth 100000 in
set_option maxHeartbeats 400000 in
theorem make_no {p q N O y g : Nat} {ws : List Int} (k f : Int) (w : World) (h : At w p q N O y g ws) (hk : hc k f ≠ 0 ∨ (N : Int) - y < f + 1) :
    Calls Try.prog 19 #[.pointer (some ⟨p, 0, none⟩), .int .i64 k, .int .i64 f] w fun e w' => e = .returned (.int .i64 (-1)) ∧ Below w.heap.size w w' := by
  by_cases c : hc k f = 0
  · obtain ⟨_, _, f0, f1⟩ := hc_bd k f c
    have hr : (N : Int) - y < f + 1 := by
      rcases hk with e | e
      · exact absurd c e
      · exact e
    have H : Hid (hc k f = 0) := c
    clear c hk
    have k1 := h.hN'
    have k2 := h.hy
    go_enter Try.func19, Try.ntmps19
    go_wp2_with fail
    refine (head_any k f _).mono ?_
    rintro e w1 ⟨rfl, rfl⟩
    rw [H.out]
    obtain ⟨c0, c1, c2, c3, c4, c5, c6⟩ := h.cells
    go_wp2_with fail
    refine (takeY_no (1 + f) _ h (by omega)).mono ?_
    rintro e w2 ⟨rfl, hb⟩
    go_wp2_with fail
    go_ret
    exact ⟨rfl, hb⟩
  · have t : (hc k f != 0) = true := by simpa using c
    clear c hk
    go_enter Try.func19, Try.ntmps19
    go_wp2_with fail
    refine (head_any k f _).mono ?_
    rintro e w1 ⟨rfl, rfl⟩
    go_wp2_with fail
    go_ret
    exact ⟨rfl, Below.refl _ _⟩

end Go.Proofs.Ytglddgjljohkiab
