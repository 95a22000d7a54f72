/- What the document's answers on words (WordOf, ValOf, Fits, HeadOf, PartsOf) return at whatever numbers: contracts, over the seat's own translation; nothing that was in memory turns. -/
import Derived.Test.YtheiboniifijnaaWords2
namespace Go.Proofs.Ytheiboniifijnaa
open Go.RowKit W

theorem wf_i64 {x : Int} (h1 : -9223372036854775808 ≤ x) (h2 : x ≤ 9223372036854775807) : IntKind.i64.wrap x = x := by
  rw [IntKind.wrap_i64]; omega

set_option maxHeartbeats 400000 in
theorem wordOf_any (k n : Int) (w : World) :
    Calls Try.prog 14 #[.agg #[.int .i64 k, .int .i64 n]] w fun e w' => e = .returned (.tuple #[.int .i64 (ew k n), .int .i64 (vc k n)]) ∧ Below w.heap.size w w' := by
  by_cases c1 : k = 1
  · subst c1
    by_cases h1 : n < -1152921504606846976
    · have e1 : vc 1 n = 1 := by rw [vc1]; unfold rc; rw [if_pos h1]
      have e2 : ew 1 n = 0 := ew_no _ _ (by omega)
      rw [e1, e2]
      clear e1 e2
      have h2 : ¬ 1152921504606846976 ≤ n := by omega
      go_enter Try.func14, Try.ntmps14
      go_wp2
      go_ret2
      exact ⟨rfl, (Below.refl _ _).alloc (Nat.le_refl _) _⟩
    · by_cases h2 : 1152921504606846976 ≤ n
      · have e1 : vc 1 n = 1 := by rw [vc1]; unfold rc; rw [if_neg h1, if_pos h2]
        have e2 : ew 1 n = 0 := ew_no _ _ (by omega)
        rw [e1, e2]
        clear e1 e2
        go_enter Try.func14, Try.ntmps14
        go_wp2
        go_ret2
        exact ⟨rfl, (Below.refl _ _).alloc (Nat.le_refl _) _⟩
      · have e1 : vc 1 n = 0 := by rw [vc1]; unfold rc; rw [if_neg h1, if_neg h2]
        have e2 : ew 1 n = 4 * n + 0 := ew_yes _ _ e1
        rw [e1, e2]
        clear e1 e2
        go_enter Try.func14, Try.ntmps14
        go_wp2
        go_ret2
        exact ⟨ret_two (by omega), (Below.refl _ _).alloc (Nat.le_refl _) _⟩
  by_cases c3 : k = 3
  · subst c3
    by_cases h1 : n < 0
    · have e1 : vc 3 n = 1 := by rw [vc3]; unfold rc; rw [if_pos h1]
      have e2 : ew 3 n = 0 := ew_no _ _ (by omega)
      rw [e1, e2]
      clear e1 e2
      have h2 : ¬ 1152921504606846976 ≤ n := by omega
      go_enter Try.func14, Try.ntmps14
      go_wp2
      go_ret2
      exact ⟨rfl, (Below.refl _ _).alloc (Nat.le_refl _) _⟩
    · by_cases h2 : 1152921504606846976 ≤ n
      · have e1 : vc 3 n = 1 := by rw [vc3]; unfold rc; rw [if_neg h1, if_pos h2]
        have e2 : ew 3 n = 0 := ew_no _ _ (by omega)
        rw [e1, e2]
        clear e1 e2
        go_enter Try.func14, Try.ntmps14
        go_wp2
        go_ret2
        exact ⟨rfl, (Below.refl _ _).alloc (Nat.le_refl _) _⟩
      · have e1 : vc 3 n = 0 := by rw [vc3]; unfold rc; rw [if_neg h1, if_neg h2]
        have e2 : ew 3 n = 4 * n + 1 := ew_yes _ _ e1
        rw [e1, e2]
        clear e1 e2
        go_enter Try.func14, Try.ntmps14
        go_wp2
        go_ret2
        exact ⟨ret_two (by omega), (Below.refl _ _).alloc (Nat.le_refl _) _⟩
  by_cases c0 : k = 0
  · subst c0
    by_cases h1 : n = 0
    · subst h1
      go_enter Try.func14, Try.ntmps14
      go_wp2
      go_ret2
      exact ⟨ret_two (by decide +kernel), (Below.refl _ _).alloc (Nat.le_refl _) _⟩
    · have e1 : vc 0 n = 7 := by rw [vc0, if_neg h1]
      have e2 : ew 0 n = 0 := ew_no _ _ (by omega)
      rw [e1, e2]
      clear e1 e2
      go_enter Try.func14, Try.ntmps14
      go_wp2
      go_ret2
      exact ⟨rfl, (Below.refl _ _).alloc (Nat.le_refl _) _⟩
  by_cases c2 : k = 2
  · subst c2
    by_cases h1 : n = 0
    · subst h1
      go_enter Try.func14, Try.ntmps14
      go_wp2
      go_ret2
      exact ⟨ret_two (by decide +kernel), (Below.refl _ _).alloc (Nat.le_refl _) _⟩
    · have e1 : vc 2 n = 7 := by rw [vc2, if_neg h1]
      have e2 : ew 2 n = 0 := ew_no _ _ (by omega)
      rw [e1, e2]
      clear e1 e2
      go_enter Try.func14, Try.ntmps14
      go_wp2
      go_ret2
      exact ⟨rfl, (Below.refl _ _).alloc (Nat.le_refl _) _⟩
  have e1 : vc k n = 2 := by unfold vc; rw [if_neg c0, if_neg c2, if_neg c1, if_neg c3]
  have e2 : ew k n = 0 := ew_no _ _ (by omega)
  rw [e1, e2]
  clear e1 e2
  go_enter Try.func14, Try.ntmps14
  go_wp2
  go_ret2
  exact ⟨rfl, (Below.refl _ _).alloc (Nat.le_refl _) _⟩

end Go.Proofs.Ytheiboniifijnaa
