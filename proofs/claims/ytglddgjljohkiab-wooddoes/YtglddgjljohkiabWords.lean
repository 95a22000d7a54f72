/- What the functions of package word, and their twins of the document's answer, return at whatever numbers: contracts, over the seat's own translation; nothing that was in memory turns. -/
import Derived.Test.YtglddgjljohkiabChecked
import Derived.Test.YtglddgjljohkiabJa
import Derived.WalkKit
import Derived.WalkSpells
import Derived.Deep.QuietTactic
import Derived.BigQuiet
import Derived.WalkSmall
namespace Go.Proofs.Ytglddgjljohkiab
open Go.RowKit W

set_option maxRecDepth 100000 in
set_option maxHeartbeats 400000 in
theorem rangeCode_any (n low : Int) (w : World) :
    Calls Try.prog 102 #[.int .i64 n, .int .i64 low] w fun e w' => e = .returned (.int .i64 (rc n low)) ∧ w' = w := by
  by_cases c1 : n < low
  · have e : rc n low = 1 := by unfold rc; rw [if_pos c1]
    rw [e]
    go_enter Try.func102, Try.ntmps102
    go_wp2
    go_ret
    exact ⟨rfl, rfl⟩
  · by_cases c2 : 1152921504606846976 ≤ n
    · have e : rc n low = 1 := by unfold rc; rw [if_neg c1, if_pos c2]
      rw [e]
      go_enter Try.func102, Try.ntmps102
      go_wp2
      go_ret
      exact ⟨rfl, rfl⟩
    · have e : rc n low = 0 := by unfold rc; rw [if_neg c1, if_neg c2]
      rw [e]
      go_enter Try.func102, Try.ntmps102
      go_wp2
      go_ret
      exact ⟨rfl, rfl⟩

set_option maxRecDepth 100000 in
set_option maxHeartbeats 400000 in
theorem tagOf_any (k : Int) (w : World) :
    Calls Try.prog 92 #[.int .i64 k] w fun e w' => e = .returned (.int .i64 (tg k)) ∧ w' = w := by
  by_cases c1 : k = 1
  · subst c1
    go_enter Try.func92, Try.ntmps92
    go_wp2
    go_ret
    exact ⟨rfl, rfl⟩
  · by_cases c3 : k = 3
    · subst c3
      go_enter Try.func92, Try.ntmps92
      go_wp2
      go_ret
      exact ⟨rfl, rfl⟩
    · by_cases c0 : k = 0
      · subst c0
        go_enter Try.func92, Try.ntmps92
        go_wp2
        go_ret
        exact ⟨rfl, rfl⟩
      · have e : tg k = 3 := by unfold tg; rw [if_neg c1, if_neg c3, if_neg c0]
        rw [e]
        go_enter Try.func92, Try.ntmps92
        go_wp2
        go_ret
        exact ⟨rfl, rfl⟩

set_option maxRecDepth 100000 in
set_option maxHeartbeats 400000 in
theorem kindOf_any (t : Int) (w : World) :
    Calls Try.prog 80 #[.int .i64 t] w fun e w' => e = .returned (.int .i64 (ko t)) ∧ w' = w := by
  by_cases c1 : t = 0
  · subst c1
    go_enter Try.func80, Try.ntmps80
    go_wp2
    go_ret
    exact ⟨rfl, rfl⟩
  · by_cases c3 : t = 1
    · subst c3
      go_enter Try.func80, Try.ntmps80
      go_wp2
      go_ret
      exact ⟨rfl, rfl⟩
    · by_cases c0 : t = 2
      · subst c0
        go_enter Try.func80, Try.ntmps80
        go_wp2
        go_ret
        exact ⟨rfl, rfl⟩
      · have e : ko t = 2 := by unfold ko; rw [if_neg c1, if_neg c3, if_neg c0]
        rw [e]
        go_enter Try.func80, Try.ntmps80
        go_wp2
        go_ret
        exact ⟨rfl, rfl⟩

/-- What is the same in every case of valueCode. -/
theorem vc0 (n : Int) : vc 0 n = if n = 0 then 0 else 7 := by simp [vc]
theorem vc2 (n : Int) : vc 2 n = if n = 0 then 0 else 7 := by simp [vc]
theorem vc1 (n : Int) : vc 1 n = rc n (-1152921504606846976) := by simp [vc]
theorem vc3 (n : Int) : vc 3 n = rc n 0 := by simp [vc]

set_option maxRecDepth 100000 in
set_option maxHeartbeats 400000 in
theorem valueCode_any (k n : Int) (w : World) :
    Calls Try.prog 81 #[.agg #[.int .i64 k, .int .i64 n]] w fun e w' => e = .returned (.int .i64 (vc k n)) ∧ Below w.heap.size w w' := by
  by_cases c0 : k = 0
  · subst c0
    rw [vc0]
    by_cases c : n = 0
    · subst c
      go_enter Try.func81, Try.ntmps81
      go_wp2
      go_ret
      exact ⟨rfl, (Below.refl _ _).alloc (Nat.le_refl _) _⟩
    · rw [if_neg c]
      go_enter Try.func81, Try.ntmps81
      go_wp2
      go_ret
      exact ⟨rfl, (Below.refl _ _).alloc (Nat.le_refl _) _⟩
  · by_cases c2 : k = 2
    · subst c2
      rw [vc2]
      by_cases c : n = 0
      · subst c
        go_enter Try.func81, Try.ntmps81
        go_wp2
        go_ret
        exact ⟨rfl, (Below.refl _ _).alloc (Nat.le_refl _) _⟩
      · rw [if_neg c]
        go_enter Try.func81, Try.ntmps81
        go_wp2
        go_ret
        exact ⟨rfl, (Below.refl _ _).alloc (Nat.le_refl _) _⟩
    · by_cases c1 : k = 1
      · subst c1
        rw [vc1]
        go_enter Try.func81, Try.ntmps81
        go_wp2_with (go_at_call 102; refine (rangeCode_any _ _ _).mono ?_; rintro e w' ⟨rfl, rfl⟩)
        go_ret
        exact ⟨rfl, (Below.refl _ _).alloc (Nat.le_refl _) _⟩
      · by_cases c3 : k = 3
        · subst c3
          rw [vc3]
          go_enter Try.func81, Try.ntmps81
          go_wp2_with (go_at_call 102; refine (rangeCode_any _ _ _).mono ?_; rintro e w' ⟨rfl, rfl⟩)
          go_ret
          exact ⟨rfl, (Below.refl _ _).alloc (Nat.le_refl _) _⟩
        · have e : vc k n = 2 := by unfold vc; rw [if_neg c0, if_neg c2, if_neg c1, if_neg c3]
          rw [e]
          go_enter Try.func81, Try.ntmps81
          go_wp2
          go_ret
          exact ⟨rfl, (Below.refl _ _).alloc (Nat.le_refl _) _⟩

/-- Cells and marks below a bound read as they did. -/
theorem bcell {B : Nat} {W w1 : World} (hb : Below B W w1) : (∀ b o, b < B → w1.cell? ⟨b, o, none⟩ = W.cell? ⟨b, o, none⟩) ∧ (∀ b o, b < B → w1.frozen? ⟨b, o, none⟩ = W.frozen? ⟨b, o, none⟩) :=
  ⟨fun b o h => hb.cell (p := ⟨b, o, none⟩) h, fun b o h => hb.frozen (p := ⟨b, o, none⟩) h⟩

theorem cells4 {w w1 : World} {a b c d : Value} {s t : TypeId} (hb : Below ((w.alloc (.cells #[a, b] s)).alloc (.cells #[c, d] t)).heap.size ((w.alloc (.cells #[a, b] s)).alloc (.cells #[c, d] t)) w1) :
    w1.cell? ⟨w.heap.size, 0, none⟩ = some a ∧ w1.cell? ⟨w.heap.size, 1, none⟩ = some b ∧ w1.cell? ⟨w.heap.size + 1, 0, none⟩ = some c ∧ w1.cell? ⟨w.heap.size + 1, 1, none⟩ = some d ∧ w1.frozen? ⟨w.heap.size, 0, none⟩ = false ∧ w1.frozen? ⟨w.heap.size, 1, none⟩ = false ∧ w.heap.size + 2 ≤ w1.heap.size := by
  obtain ⟨hc, hf⟩ := bcell hb
  have hz := hb.size
  refine ⟨?_, ?_, ?_, ?_, ?_, ?_, by simpa using hz⟩
  · rw [hc _ _ (by simp; omega)]; simp [go_sem]
  · rw [hc _ _ (by simp; omega)]; simp [go_sem]
  · rw [hc _ _ (by simp)]; simp [go_sem]
  · rw [hc _ _ (by simp)]; simp [go_sem]
  · rw [hf _ _ (by simp; omega)]; simp [go_sem]
  · rw [hf _ _ (by simp; omega)]; simp [go_sem]

theorem cells2 {w w1 : World} {a b : Value} {t : TypeId} (hb : Below (w.alloc (.cells #[a, b] t)).heap.size (w.alloc (.cells #[a, b] t)) w1) :
    w1.cell? ⟨w.heap.size, 0, none⟩ = some a ∧ w1.cell? ⟨w.heap.size, 1, none⟩ = some b ∧ w.heap.size + 1 ≤ w1.heap.size := by
  obtain ⟨hc, _⟩ := bcell hb
  have hz := hb.size
  refine ⟨?_, ?_, by simpa using hz⟩
  · rw [hc _ _ (by simp)]; simp [go_sem]
  · rw [hc _ _ (by simp)]; simp [go_sem]

theorem ret_two {a b : Int} {c : Value} (h : a = b) : Ending.returned (.tuple #[.int .i64 a, c]) = .returned (.tuple #[.int .i64 b, c]) := by rw [h]

set_option maxRecDepth 100000 in
set_option maxHeartbeats 400000 in
theorem encode_any (k n : Int) (w : World) :
    Calls Try.prog 62 #[.agg #[.int .i64 k, .int .i64 n]] w fun e w' => e = .returned (.tuple #[.int .i64 (ew k n), .int .i64 (vc k n)]) ∧ Below w.heap.size w w' := by
  by_cases h : vc k n = 0
  · rw [ew_yes k n h]
    have hn := vc_bd k n h
    have H : Hid (vc k n = 0) := h
    clear h
    rw [H.out]
    have E : Hid (bits .or .i64 (n * 4) (tg k) = 4 * n + tg k) := enc_or k n hn.1 hn.2
    go_enter Try.func62, Try.ntmps62
    go_wp2_with fail
    refine (valueCode_any k n _).mono ?_
    rintro e w1 ⟨rfl, hb⟩
    rw [H.out]
    obtain ⟨hc, hf⟩ := bcell hb
    go_wp2_with fail
    go_quiet ((go_at_call 92; exact Calls.quiet_of_same (tagOf_any _ _)))
    go_wp2_with fail
    go_ret2
    exact ⟨ret_two E.out, below_drewN (((Below.refl _ _).alloc (Nat.le_refl _) _).trans (hb.mono (by simp))) _⟩
  · rw [ew_no k n h]
    have hc : (vc k n != 0) = true := by simpa using h
    go_enter Try.func62, Try.ntmps62
    go_wp2_with fail
    refine (valueCode_any k n _).mono ?_
    rintro e w1 ⟨rfl, hb⟩
    go_wp2_with fail
    go_ret2
    exact ⟨rfl, ((Below.refl _ _).alloc (Nat.le_refl _) _).trans (hb.mono (by simp))⟩

set_option maxRecDepth 100000 in
set_option maxHeartbeats 400000 in
theorem decode_any (x : Int) (w : World) :
    Calls Try.prog 38 #[.int .i64 x] w fun e w' => e = .returned (.tuple #[.agg #[.int .i64 (dk x), .int .i64 (dn x)], .int .i64 (dc x)]) ∧ Below w.heap.size w w' := by
  have h3 := and3 x
  by_cases h : dc x = 0
  · have e1 : dk x = ko (x % 4) := by unfold dk; rw [if_pos h]
    have e2 : dn x = x / 4 := by unfold dn; rw [if_pos h]
    have H : Hid (vc (ko (x % 4)) (x / 4) = 0) := h
    rw [h, e1, e2]
    clear h e1 e2
    go_enter Try.func38, Try.ntmps38
    go_wp2_with fail
    refine (kindOf_any _ _).mono ?_
    rintro e w' ⟨rfl, rfl⟩
    go_wp2_with fail
    refine (valueCode_any (ko (x % 4)) (x / 4) _).mono ?_
    rintro e w1 ⟨rfl, hb⟩
    rw [H.out]
    obtain ⟨c0, c1, c2, c3, f0, f1, hz⟩ := cells4 hb
    go_wp2_with fail
    exact bodyPost_ret (v := .tuple #[.agg #[.int .i64 (ko (x % 4)), .int .i64 (x / 4)], .int .i64 0]) (by simp [results, Try.results38, go_sem, c0, c1]) rfl ⟨rfl, (((((Below.refl _ _).alloc (Nat.le_refl _) _).alloc (by simp) _).trans (hb.mono (by simp; omega))).setCell (Nat.le_refl _) _).setCell (Nat.le_refl _) _⟩
  · have e1 : dk x = 0 := by unfold dk; rw [if_neg h]
    have e2 : dn x = 0 := by unfold dn; rw [if_neg h]
    rw [e1, e2]
    have hn : (vc (ko (x % 4)) (x / 4) != 0) = true := by simpa [dc] using h
    have E : Hid (dc x = vc (ko (x % 4)) (x / 4)) := rfl
    rw [E.out]
    clear h e1 e2
    go_enter Try.func38, Try.ntmps38
    go_wp2_with fail
    refine (kindOf_any _ _).mono ?_
    rintro e w' ⟨rfl, rfl⟩
    go_wp2_with fail
    refine (valueCode_any (ko (x % 4)) (x / 4) _).mono ?_
    rintro e w1 ⟨rfl, hb⟩
    obtain ⟨c0, c1, c2, c3, f0, f1, hz⟩ := cells4 hb
    go_wp2_with fail
    exact bodyPost_ret (v := .tuple #[.agg #[.int .i64 0, .int .i64 0], .int .i64 (vc (ko (x % 4)) (x / 4))]) (by simp [results, Try.results38, go_sem, c0, c1]) rfl ⟨rfl, (((((Below.refl _ _).alloc (Nat.le_refl _) _).alloc (by simp) _).trans (hb.mono (by simp; omega))).setCell (Nat.le_refl _) _).setCell (Nat.le_refl _) _⟩

end Go.Proofs.Ytglddgjljohkiab
