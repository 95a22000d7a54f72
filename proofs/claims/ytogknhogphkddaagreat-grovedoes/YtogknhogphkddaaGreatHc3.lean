/- The document's StepFault, whatever the step: a contract. -/
import Derived.Test.YtogknhogphkddaaGreatJ04
namespace Go.Proofs.YtogknhogphkddaaGreat
open Go.RowKit W Kp Stl

theorem ckN_lo1 {n : Int} (h : n < -1152921504606846976) : ckN 1 n = 1 := by unfold ckN vc rc; rw [if_pos rfl, if_neg (by omega), if_neg (by omega), if_pos rfl, if_pos h]
theorem ckN_hi1 {n : Int} (h : 1152921504606846976 ≤ n) : ckN 1 n = 1 := by unfold ckN vc rc; rw [if_pos rfl, if_neg (by omega), if_neg (by omega), if_pos rfl, if_neg (by omega), if_pos h]
theorem ckN_ok1 {n : Int} (h : -1152921504606846976 ≤ n) (h2 : n < 1152921504606846976) : ckN 1 n = 0 := by unfold ckN vc rc; rw [if_pos rfl, if_neg (by omega), if_neg (by omega), if_pos rfl, if_neg (by omega), if_neg (by omega)]
theorem ckN_lo5 {n : Int} (h : n < 0) : ckN 5 n = 1 := by unfold ckN hc; rw [if_neg (by omega), if_pos rfl, if_neg (by omega), if_neg (by omega), if_neg (by omega), if_pos rfl, if_pos h]
theorem ckN_hi5 {n : Int} (h : 12 < n) : ckN 5 n = 1 := by unfold ckN hc; rw [if_neg (by omega), if_pos rfl, if_neg (by omega), if_neg (by omega), if_neg (by omega), if_pos rfl, if_neg (by omega), if_pos h]
theorem ckN_ok5 {n : Int} (h : 0 ≤ n) (h2 : n ≤ 12) : ckN 5 n = 0 := by unfold ckN hc; rw [if_neg (by omega), if_pos rfl, if_neg (by omega), if_neg (by omega), if_neg (by omega), if_pos rfl, if_neg (by omega), if_neg (by omega)]
theorem ckN_no {k n : Int} (h1 : k ≠ 1) (h5 : k ≠ 5) : ckN k n = 0 := by unfold ckN; rw [if_neg h1, if_neg h5]

section
variable {k R A B I n : Int} {w : World}
set_option maxRecDepth 100000 in
set_option maxHeartbeats 1000000 in
theorem sf_1_0 (hu : usK k = 1) (hx : R < 0 ∨ 12 ≤ R) : Calls Tryz.prog 24 #[.agg #[.int .i64 k, .int .i64 R, .int .i64 A, .int .i64 B, .int .i64 I, .int .i64 n]] w fun e w' => e = .returned (.int .i64 (1)) ∧ Below w.heap.size w w' := by
  have U : ∀ w, Calls Tryz.prog 51 #[.int .i64 k] w fun e w' => e = .returned (.int .i64 1) ∧ w' = w := fun w => by
    have h := usesR_any k w
    rw [hu] at h
    exact h
  have hb0 := (Below.refl w.heap.size w).alloc (Nat.le_refl _) (.cells #[.int .i64 k, .int .i64 R, .int .i64 A, .int .i64 B, .int .i64 I, .int .i64 n] 34)
  clear hu
  rcases hx with hx | hx
  all_goals
    go_enter Tryz.func24, Tryz.ntmps24
    go_wp2_with fail
    refine (U _).mono ?_
    rintro e w1 ⟨rfl, rfl⟩
    go_wp2_with fail
    go_loopw [5] (fun iv wr => ∃ (j : Nat), j ≤ 0 ∧ iv = .int .i64 j ∧ wr = (w.alloc (.cells #[.int .i64 k, .int .i64 R, .int .i64 A, .int .i64 B, .int .i64 I, .int .i64 n] 34)).alloc (.cells #[.int .i64 R, .int .i64 A, .int .i64 B] 3)) (fun iv _ => 3 - (intOf iv).toNat)
    case atStart => exact ⟨0, by omega, rfl, rfl⟩
    case round =>
      obtain ⟨j, hj, rfl, rfl⟩ := hrel
      obtain rfl : j = 0 := by omega
      go_wp2_with fail
      go_ret
      exact ⟨rfl, hb0.alloc (by simp) _⟩
set_option maxRecDepth 100000 in
set_option maxHeartbeats 1000000 in
theorem sf_3_0 (hu : usK k = 3) (hx : R < 0 ∨ 12 ≤ R) : Calls Tryz.prog 24 #[.agg #[.int .i64 k, .int .i64 R, .int .i64 A, .int .i64 B, .int .i64 I, .int .i64 n]] w fun e w' => e = .returned (.int .i64 (1)) ∧ Below w.heap.size w w' := by
  have U : ∀ w, Calls Tryz.prog 51 #[.int .i64 k] w fun e w' => e = .returned (.int .i64 3) ∧ w' = w := fun w => by
    have h := usesR_any k w
    rw [hu] at h
    exact h
  have hb0 := (Below.refl w.heap.size w).alloc (Nat.le_refl _) (.cells #[.int .i64 k, .int .i64 R, .int .i64 A, .int .i64 B, .int .i64 I, .int .i64 n] 34)
  clear hu
  rcases hx with hx | hx
  all_goals
    go_enter Tryz.func24, Tryz.ntmps24
    go_wp2_with fail
    refine (U _).mono ?_
    rintro e w1 ⟨rfl, rfl⟩
    go_wp2_with fail
    go_loopw [5] (fun iv wr => ∃ (j : Nat), j ≤ 0 ∧ iv = .int .i64 j ∧ wr = (w.alloc (.cells #[.int .i64 k, .int .i64 R, .int .i64 A, .int .i64 B, .int .i64 I, .int .i64 n] 34)).alloc (.cells #[.int .i64 R, .int .i64 A, .int .i64 B] 3)) (fun iv _ => 3 - (intOf iv).toNat)
    case atStart => exact ⟨0, by omega, rfl, rfl⟩
    case round =>
      obtain ⟨j, hj, rfl, rfl⟩ := hrel
      obtain rfl : j = 0 := by omega
      go_wp2_with fail
      go_ret
      exact ⟨rfl, hb0.alloc (by simp) _⟩
set_option maxRecDepth 100000 in
set_option maxHeartbeats 1000000 in
theorem sf_3_1 (hu : usK k = 3) (z0 : 0 ≤ R) (y0 : R < 12) (hx : A < 0 ∨ 12 ≤ A) : Calls Tryz.prog 24 #[.agg #[.int .i64 k, .int .i64 R, .int .i64 A, .int .i64 B, .int .i64 I, .int .i64 n]] w fun e w' => e = .returned (.int .i64 (1)) ∧ Below w.heap.size w w' := by
  have U : ∀ w, Calls Tryz.prog 51 #[.int .i64 k] w fun e w' => e = .returned (.int .i64 3) ∧ w' = w := fun w => by
    have h := usesR_any k w
    rw [hu] at h
    exact h
  have hb0 := (Below.refl w.heap.size w).alloc (Nat.le_refl _) (.cells #[.int .i64 k, .int .i64 R, .int .i64 A, .int .i64 B, .int .i64 I, .int .i64 n] 34)
  clear hu
  rcases hx with hx | hx
  all_goals
    go_enter Tryz.func24, Tryz.ntmps24
    go_wp2_with fail
    refine (U _).mono ?_
    rintro e w1 ⟨rfl, rfl⟩
    go_wp2_with fail
    go_loopw [5] (fun iv wr => ∃ (j : Nat), j ≤ 1 ∧ iv = .int .i64 j ∧ wr = (w.alloc (.cells #[.int .i64 k, .int .i64 R, .int .i64 A, .int .i64 B, .int .i64 I, .int .i64 n] 34)).alloc (.cells #[.int .i64 R, .int .i64 A, .int .i64 B] 3)) (fun iv _ => 3 - (intOf iv).toNat)
    case atStart => exact ⟨0, by omega, rfl, rfl⟩
    case round =>
      obtain ⟨j, hj, rfl, rfl⟩ := hrel
      rcases (show j = 0 ∨ j = 1 by omega) with rfl | rfl
      · go_wp2_with fail
        go_roundw
        case rel => exact ⟨1, by decide, rfl, trivial⟩
        case measure => simp [intOf]
      · go_wp2_with fail
        go_ret
        exact ⟨rfl, hb0.alloc (by simp) _⟩
set_option maxRecDepth 100000 in
set_option maxHeartbeats 1000000 in
theorem sf_7_0 (hu : usK k = 7) (hx : R < 0 ∨ 12 ≤ R) : Calls Tryz.prog 24 #[.agg #[.int .i64 k, .int .i64 R, .int .i64 A, .int .i64 B, .int .i64 I, .int .i64 n]] w fun e w' => e = .returned (.int .i64 (1)) ∧ Below w.heap.size w w' := by
  have U : ∀ w, Calls Tryz.prog 51 #[.int .i64 k] w fun e w' => e = .returned (.int .i64 7) ∧ w' = w := fun w => by
    have h := usesR_any k w
    rw [hu] at h
    exact h
  have hb0 := (Below.refl w.heap.size w).alloc (Nat.le_refl _) (.cells #[.int .i64 k, .int .i64 R, .int .i64 A, .int .i64 B, .int .i64 I, .int .i64 n] 34)
  clear hu
  rcases hx with hx | hx
  all_goals
    go_enter Tryz.func24, Tryz.ntmps24
    go_wp2_with fail
    refine (U _).mono ?_
    rintro e w1 ⟨rfl, rfl⟩
    go_wp2_with fail
    go_loopw [5] (fun iv wr => ∃ (j : Nat), j ≤ 0 ∧ iv = .int .i64 j ∧ wr = (w.alloc (.cells #[.int .i64 k, .int .i64 R, .int .i64 A, .int .i64 B, .int .i64 I, .int .i64 n] 34)).alloc (.cells #[.int .i64 R, .int .i64 A, .int .i64 B] 3)) (fun iv _ => 3 - (intOf iv).toNat)
    case atStart => exact ⟨0, by omega, rfl, rfl⟩
    case round =>
      obtain ⟨j, hj, rfl, rfl⟩ := hrel
      obtain rfl : j = 0 := by omega
      go_wp2_with fail
      go_ret
      exact ⟨rfl, hb0.alloc (by simp) _⟩
set_option maxRecDepth 100000 in
set_option maxHeartbeats 1000000 in
theorem sf_7_1 (hu : usK k = 7) (z0 : 0 ≤ R) (y0 : R < 12) (hx : A < 0 ∨ 12 ≤ A) : Calls Tryz.prog 24 #[.agg #[.int .i64 k, .int .i64 R, .int .i64 A, .int .i64 B, .int .i64 I, .int .i64 n]] w fun e w' => e = .returned (.int .i64 (1)) ∧ Below w.heap.size w w' := by
  have U : ∀ w, Calls Tryz.prog 51 #[.int .i64 k] w fun e w' => e = .returned (.int .i64 7) ∧ w' = w := fun w => by
    have h := usesR_any k w
    rw [hu] at h
    exact h
  have hb0 := (Below.refl w.heap.size w).alloc (Nat.le_refl _) (.cells #[.int .i64 k, .int .i64 R, .int .i64 A, .int .i64 B, .int .i64 I, .int .i64 n] 34)
  clear hu
  rcases hx with hx | hx
  all_goals
    go_enter Tryz.func24, Tryz.ntmps24
    go_wp2_with fail
    refine (U _).mono ?_
    rintro e w1 ⟨rfl, rfl⟩
    go_wp2_with fail
    go_loopw [5] (fun iv wr => ∃ (j : Nat), j ≤ 1 ∧ iv = .int .i64 j ∧ wr = (w.alloc (.cells #[.int .i64 k, .int .i64 R, .int .i64 A, .int .i64 B, .int .i64 I, .int .i64 n] 34)).alloc (.cells #[.int .i64 R, .int .i64 A, .int .i64 B] 3)) (fun iv _ => 3 - (intOf iv).toNat)
    case atStart => exact ⟨0, by omega, rfl, rfl⟩
    case round =>
      obtain ⟨j, hj, rfl, rfl⟩ := hrel
      rcases (show j = 0 ∨ j = 1 by omega) with rfl | rfl
      · go_wp2_with fail
        go_roundw
        case rel => exact ⟨1, by decide, rfl, trivial⟩
        case measure => simp [intOf]
      · go_wp2_with fail
        go_ret
        exact ⟨rfl, hb0.alloc (by simp) _⟩
set_option maxRecDepth 100000 in
set_option maxHeartbeats 1000000 in
theorem sf_7_2 (hu : usK k = 7) (z0 : 0 ≤ R) (y0 : R < 12) (z1 : 0 ≤ A) (y1 : A < 12) (hx : B < 0 ∨ 12 ≤ B) : Calls Tryz.prog 24 #[.agg #[.int .i64 k, .int .i64 R, .int .i64 A, .int .i64 B, .int .i64 I, .int .i64 n]] w fun e w' => e = .returned (.int .i64 (1)) ∧ Below w.heap.size w w' := by
  have U : ∀ w, Calls Tryz.prog 51 #[.int .i64 k] w fun e w' => e = .returned (.int .i64 7) ∧ w' = w := fun w => by
    have h := usesR_any k w
    rw [hu] at h
    exact h
  have hb0 := (Below.refl w.heap.size w).alloc (Nat.le_refl _) (.cells #[.int .i64 k, .int .i64 R, .int .i64 A, .int .i64 B, .int .i64 I, .int .i64 n] 34)
  clear hu
  rcases hx with hx | hx
  all_goals
    go_enter Tryz.func24, Tryz.ntmps24
    go_wp2_with fail
    refine (U _).mono ?_
    rintro e w1 ⟨rfl, rfl⟩
    go_wp2_with fail
    go_loopw [5] (fun iv wr => ∃ (j : Nat), j ≤ 2 ∧ iv = .int .i64 j ∧ wr = (w.alloc (.cells #[.int .i64 k, .int .i64 R, .int .i64 A, .int .i64 B, .int .i64 I, .int .i64 n] 34)).alloc (.cells #[.int .i64 R, .int .i64 A, .int .i64 B] 3)) (fun iv _ => 3 - (intOf iv).toNat)
    case atStart => exact ⟨0, by omega, rfl, rfl⟩
    case round =>
      obtain ⟨j, hj, rfl, rfl⟩ := hrel
      rcases (show j = 0 ∨ j = 1 ∨ j = 2 by omega) with rfl | rfl | rfl
      · go_wp2_with fail
        go_roundw
        case rel => exact ⟨1, by decide, rfl, trivial⟩
        case measure => simp [intOf]
      · go_wp2_with fail
        go_roundw
        case rel => exact ⟨2, by decide, rfl, trivial⟩
        case measure => simp [intOf]
      · go_wp2_with fail
        go_ret
        exact ⟨rfl, hb0.alloc (by simp) _⟩
set_option maxRecDepth 100000 in
set_option maxHeartbeats 1000000 in
theorem sf_6_1 (hu : usK k = 6) (hx : A < 0 ∨ 12 ≤ A) : Calls Tryz.prog 24 #[.agg #[.int .i64 k, .int .i64 R, .int .i64 A, .int .i64 B, .int .i64 I, .int .i64 n]] w fun e w' => e = .returned (.int .i64 (1)) ∧ Below w.heap.size w w' := by
  have U : ∀ w, Calls Tryz.prog 51 #[.int .i64 k] w fun e w' => e = .returned (.int .i64 6) ∧ w' = w := fun w => by
    have h := usesR_any k w
    rw [hu] at h
    exact h
  have hb0 := (Below.refl w.heap.size w).alloc (Nat.le_refl _) (.cells #[.int .i64 k, .int .i64 R, .int .i64 A, .int .i64 B, .int .i64 I, .int .i64 n] 34)
  clear hu
  rcases hx with hx | hx
  all_goals
    go_enter Tryz.func24, Tryz.ntmps24
    go_wp2_with fail
    refine (U _).mono ?_
    rintro e w1 ⟨rfl, rfl⟩
    go_wp2_with fail
    go_loopw [5] (fun iv wr => ∃ (j : Nat), j ≤ 1 ∧ iv = .int .i64 j ∧ wr = (w.alloc (.cells #[.int .i64 k, .int .i64 R, .int .i64 A, .int .i64 B, .int .i64 I, .int .i64 n] 34)).alloc (.cells #[.int .i64 R, .int .i64 A, .int .i64 B] 3)) (fun iv _ => 3 - (intOf iv).toNat)
    case atStart => exact ⟨0, by omega, rfl, rfl⟩
    case round =>
      obtain ⟨j, hj, rfl, rfl⟩ := hrel
      rcases (show j = 0 ∨ j = 1 by omega) with rfl | rfl
      · go_wp2_with fail
        go_roundw
        case rel => exact ⟨1, by decide, rfl, trivial⟩
        case measure => simp [intOf]
      · go_wp2_with fail
        go_ret
        exact ⟨rfl, hb0.alloc (by simp) _⟩
set_option maxRecDepth 100000 in
set_option maxHeartbeats 1000000 in
theorem sf_6_2 (hu : usK k = 6) (z1 : 0 ≤ A) (y1 : A < 12) (hx : B < 0 ∨ 12 ≤ B) : Calls Tryz.prog 24 #[.agg #[.int .i64 k, .int .i64 R, .int .i64 A, .int .i64 B, .int .i64 I, .int .i64 n]] w fun e w' => e = .returned (.int .i64 (1)) ∧ Below w.heap.size w w' := by
  have U : ∀ w, Calls Tryz.prog 51 #[.int .i64 k] w fun e w' => e = .returned (.int .i64 6) ∧ w' = w := fun w => by
    have h := usesR_any k w
    rw [hu] at h
    exact h
  have hb0 := (Below.refl w.heap.size w).alloc (Nat.le_refl _) (.cells #[.int .i64 k, .int .i64 R, .int .i64 A, .int .i64 B, .int .i64 I, .int .i64 n] 34)
  clear hu
  rcases hx with hx | hx
  all_goals
    go_enter Tryz.func24, Tryz.ntmps24
    go_wp2_with fail
    refine (U _).mono ?_
    rintro e w1 ⟨rfl, rfl⟩
    go_wp2_with fail
    go_loopw [5] (fun iv wr => ∃ (j : Nat), j ≤ 2 ∧ iv = .int .i64 j ∧ wr = (w.alloc (.cells #[.int .i64 k, .int .i64 R, .int .i64 A, .int .i64 B, .int .i64 I, .int .i64 n] 34)).alloc (.cells #[.int .i64 R, .int .i64 A, .int .i64 B] 3)) (fun iv _ => 3 - (intOf iv).toNat)
    case atStart => exact ⟨0, by omega, rfl, rfl⟩
    case round =>
      obtain ⟨j, hj, rfl, rfl⟩ := hrel
      rcases (show j = 0 ∨ j = 1 ∨ j = 2 by omega) with rfl | rfl | rfl
      · go_wp2_with fail
        go_roundw
        case rel => exact ⟨1, by decide, rfl, trivial⟩
        case measure => simp [intOf]
      · go_wp2_with fail
        go_roundw
        case rel => exact ⟨2, by decide, rfl, trivial⟩
        case measure => simp [intOf]
      · go_wp2_with fail
        go_ret
        exact ⟨rfl, hb0.alloc (by simp) _⟩
set_option maxRecDepth 100000 in
set_option maxHeartbeats 1000000 in
theorem sf_1_lo (z0 : 0 ≤ R) (y0 : R < 12) (hn : n < -1152921504606846976) : Calls Tryz.prog 24 #[.agg #[.int .i64 1, .int .i64 R, .int .i64 A, .int .i64 B, .int .i64 I, .int .i64 n]] w fun e w' => e = .returned (.int .i64 (ckN 1 n)) ∧ Below w.heap.size w w' := by
  have U : ∀ w, Calls Tryz.prog 51 #[.int .i64 1] w fun e w' => e = .returned (.int .i64 1) ∧ w' = w := fun w => by
    have h := usesR_any 1 w
    rw [show usK 1 = 1 from rfl] at h
    exact h
  have hb0 := (Below.refl w.heap.size w).alloc (Nat.le_refl _) (.cells #[.int .i64 1, .int .i64 R, .int .i64 A, .int .i64 B, .int .i64 I, .int .i64 n] 34)
  have HN : Hid (_) := hn
  have hn3 : ¬ 1152921504606846976 ≤ n := by omega
  go_enter Tryz.func24, Tryz.ntmps24
  go_wp2_with fail
  refine (U _).mono ?_
  rintro e w1 ⟨rfl, rfl⟩
  go_wp2_with fail
  go_loopw [5] (fun iv wr => ∃ (j : Nat), j ≤ 3 ∧ iv = .int .i64 j ∧ wr = (w.alloc (.cells #[.int .i64 1, .int .i64 R, .int .i64 A, .int .i64 B, .int .i64 I, .int .i64 n] 34)).alloc (.cells #[.int .i64 R, .int .i64 A, .int .i64 B] 3)) (fun iv _ => 3 - (intOf iv).toNat)
  case atStart => exact ⟨0, by omega, rfl, rfl⟩
  case round =>
    obtain ⟨j, hj, rfl, rfl⟩ := hrel
    rcases (show j = 0 ∨ j = 1 ∨ j = 2 ∨ j = 3 by omega) with rfl | rfl | rfl | rfl
    · go_wp2_with fail
      go_roundw
      case rel => exact ⟨1, by decide, rfl, trivial⟩
      case measure => simp [intOf]
    · go_wp2_with fail
      go_roundw
      case rel => exact ⟨2, by decide, rfl, trivial⟩
      case measure => simp [intOf]
    · go_wp2_with fail
      go_roundw
      case rel => exact ⟨3, by decide, rfl, trivial⟩
      case measure => simp [intOf]
    · go_wp2_with fail
      go_ret
      exact ⟨by rw [ckN_lo1 HN.out]; rfl, hb0.alloc (by simp) _⟩
set_option maxRecDepth 100000 in
set_option maxHeartbeats 1000000 in
theorem sf_1_hi (z0 : 0 ≤ R) (y0 : R < 12) (hn : 1152921504606846976 ≤ n) : Calls Tryz.prog 24 #[.agg #[.int .i64 1, .int .i64 R, .int .i64 A, .int .i64 B, .int .i64 I, .int .i64 n]] w fun e w' => e = .returned (.int .i64 (ckN 1 n)) ∧ Below w.heap.size w w' := by
  have U : ∀ w, Calls Tryz.prog 51 #[.int .i64 1] w fun e w' => e = .returned (.int .i64 1) ∧ w' = w := fun w => by
    have h := usesR_any 1 w
    rw [show usK 1 = 1 from rfl] at h
    exact h
  have hb0 := (Below.refl w.heap.size w).alloc (Nat.le_refl _) (.cells #[.int .i64 1, .int .i64 R, .int .i64 A, .int .i64 B, .int .i64 I, .int .i64 n] 34)
  have HN : Hid (_) := hn
  have hn3 : ¬ n < -1152921504606846976 := by omega
  go_enter Tryz.func24, Tryz.ntmps24
  go_wp2_with fail
  refine (U _).mono ?_
  rintro e w1 ⟨rfl, rfl⟩
  go_wp2_with fail
  go_loopw [5] (fun iv wr => ∃ (j : Nat), j ≤ 3 ∧ iv = .int .i64 j ∧ wr = (w.alloc (.cells #[.int .i64 1, .int .i64 R, .int .i64 A, .int .i64 B, .int .i64 I, .int .i64 n] 34)).alloc (.cells #[.int .i64 R, .int .i64 A, .int .i64 B] 3)) (fun iv _ => 3 - (intOf iv).toNat)
  case atStart => exact ⟨0, by omega, rfl, rfl⟩
  case round =>
    obtain ⟨j, hj, rfl, rfl⟩ := hrel
    rcases (show j = 0 ∨ j = 1 ∨ j = 2 ∨ j = 3 by omega) with rfl | rfl | rfl | rfl
    · go_wp2_with fail
      go_roundw
      case rel => exact ⟨1, by decide, rfl, trivial⟩
      case measure => simp [intOf]
    · go_wp2_with fail
      go_roundw
      case rel => exact ⟨2, by decide, rfl, trivial⟩
      case measure => simp [intOf]
    · go_wp2_with fail
      go_roundw
      case rel => exact ⟨3, by decide, rfl, trivial⟩
      case measure => simp [intOf]
    · go_wp2_with fail
      go_ret
      exact ⟨by rw [ckN_hi1 HN.out]; rfl, hb0.alloc (by simp) _⟩
set_option maxRecDepth 100000 in
set_option maxHeartbeats 1000000 in
theorem sf_1_ok (z0 : 0 ≤ R) (y0 : R < 12) (hn : -1152921504606846976 ≤ n) (hn2 : n < 1152921504606846976) : Calls Tryz.prog 24 #[.agg #[.int .i64 1, .int .i64 R, .int .i64 A, .int .i64 B, .int .i64 I, .int .i64 n]] w fun e w' => e = .returned (.int .i64 (ckN 1 n)) ∧ Below w.heap.size w w' := by
  have U : ∀ w, Calls Tryz.prog 51 #[.int .i64 1] w fun e w' => e = .returned (.int .i64 1) ∧ w' = w := fun w => by
    have h := usesR_any 1 w
    rw [show usK 1 = 1 from rfl] at h
    exact h
  have hb0 := (Below.refl w.heap.size w).alloc (Nat.le_refl _) (.cells #[.int .i64 1, .int .i64 R, .int .i64 A, .int .i64 B, .int .i64 I, .int .i64 n] 34)
  have HN : Hid (_) := hn
  have HN2 : Hid (_) := hn2
  have hn3 : ¬ 1152921504606846976 ≤ n := by omega
  have hn4 : ¬ n < -1152921504606846976 := by omega
  go_enter Tryz.func24, Tryz.ntmps24
  go_wp2_with fail
  refine (U _).mono ?_
  rintro e w1 ⟨rfl, rfl⟩
  go_wp2_with fail
  go_loopw [5] (fun iv wr => ∃ (j : Nat), j ≤ 3 ∧ iv = .int .i64 j ∧ wr = (w.alloc (.cells #[.int .i64 1, .int .i64 R, .int .i64 A, .int .i64 B, .int .i64 I, .int .i64 n] 34)).alloc (.cells #[.int .i64 R, .int .i64 A, .int .i64 B] 3)) (fun iv _ => 3 - (intOf iv).toNat)
  case atStart => exact ⟨0, by omega, rfl, rfl⟩
  case round =>
    obtain ⟨j, hj, rfl, rfl⟩ := hrel
    rcases (show j = 0 ∨ j = 1 ∨ j = 2 ∨ j = 3 by omega) with rfl | rfl | rfl | rfl
    · go_wp2_with fail
      go_roundw
      case rel => exact ⟨1, by decide, rfl, trivial⟩
      case measure => simp [intOf]
    · go_wp2_with fail
      go_roundw
      case rel => exact ⟨2, by decide, rfl, trivial⟩
      case measure => simp [intOf]
    · go_wp2_with fail
      go_roundw
      case rel => exact ⟨3, by decide, rfl, trivial⟩
      case measure => simp [intOf]
    · go_wp2_with fail
      go_ret
      exact ⟨by rw [ckN_ok1 HN.out HN2.out]; rfl, hb0.alloc (by simp) _⟩
set_option maxRecDepth 100000 in
set_option maxHeartbeats 1000000 in
theorem sf_5_lo (z0 : 0 ≤ R) (y0 : R < 12) (z1 : 0 ≤ A) (y1 : A < 12) (hn : n < 0) : Calls Tryz.prog 24 #[.agg #[.int .i64 5, .int .i64 R, .int .i64 A, .int .i64 B, .int .i64 I, .int .i64 n]] w fun e w' => e = .returned (.int .i64 (ckN 5 n)) ∧ Below w.heap.size w w' := by
  have U : ∀ w, Calls Tryz.prog 51 #[.int .i64 5] w fun e w' => e = .returned (.int .i64 3) ∧ w' = w := fun w => by
    have h := usesR_any 5 w
    rw [show usK 5 = 3 from rfl] at h
    exact h
  have hb0 := (Below.refl w.heap.size w).alloc (Nat.le_refl _) (.cells #[.int .i64 5, .int .i64 R, .int .i64 A, .int .i64 B, .int .i64 I, .int .i64 n] 34)
  have HN : Hid (_) := hn
  have hn3 : ¬ 12 < n := by omega
  go_enter Tryz.func24, Tryz.ntmps24
  go_wp2_with fail
  refine (U _).mono ?_
  rintro e w1 ⟨rfl, rfl⟩
  go_wp2_with fail
  go_loopw [5] (fun iv wr => ∃ (j : Nat), j ≤ 3 ∧ iv = .int .i64 j ∧ wr = (w.alloc (.cells #[.int .i64 5, .int .i64 R, .int .i64 A, .int .i64 B, .int .i64 I, .int .i64 n] 34)).alloc (.cells #[.int .i64 R, .int .i64 A, .int .i64 B] 3)) (fun iv _ => 3 - (intOf iv).toNat)
  case atStart => exact ⟨0, by omega, rfl, rfl⟩
  case round =>
    obtain ⟨j, hj, rfl, rfl⟩ := hrel
    rcases (show j = 0 ∨ j = 1 ∨ j = 2 ∨ j = 3 by omega) with rfl | rfl | rfl | rfl
    · go_wp2_with fail
      go_roundw
      case rel => exact ⟨1, by decide, rfl, trivial⟩
      case measure => simp [intOf]
    · go_wp2_with fail
      go_roundw
      case rel => exact ⟨2, by decide, rfl, trivial⟩
      case measure => simp [intOf]
    · go_wp2_with fail
      go_roundw
      case rel => exact ⟨3, by decide, rfl, trivial⟩
      case measure => simp [intOf]
    · go_wp2_with fail
      go_ret
      exact ⟨by rw [ckN_lo5 HN.out]; rfl, hb0.alloc (by simp) _⟩
set_option maxRecDepth 100000 in
set_option maxHeartbeats 1000000 in
theorem sf_5_hi (z0 : 0 ≤ R) (y0 : R < 12) (z1 : 0 ≤ A) (y1 : A < 12) (hn : 12 < n) : Calls Tryz.prog 24 #[.agg #[.int .i64 5, .int .i64 R, .int .i64 A, .int .i64 B, .int .i64 I, .int .i64 n]] w fun e w' => e = .returned (.int .i64 (ckN 5 n)) ∧ Below w.heap.size w w' := by
  have U : ∀ w, Calls Tryz.prog 51 #[.int .i64 5] w fun e w' => e = .returned (.int .i64 3) ∧ w' = w := fun w => by
    have h := usesR_any 5 w
    rw [show usK 5 = 3 from rfl] at h
    exact h
  have hb0 := (Below.refl w.heap.size w).alloc (Nat.le_refl _) (.cells #[.int .i64 5, .int .i64 R, .int .i64 A, .int .i64 B, .int .i64 I, .int .i64 n] 34)
  have HN : Hid (_) := hn
  have hn3 : ¬ n < 0 := by omega
  go_enter Tryz.func24, Tryz.ntmps24
  go_wp2_with fail
  refine (U _).mono ?_
  rintro e w1 ⟨rfl, rfl⟩
  go_wp2_with fail
  go_loopw [5] (fun iv wr => ∃ (j : Nat), j ≤ 3 ∧ iv = .int .i64 j ∧ wr = (w.alloc (.cells #[.int .i64 5, .int .i64 R, .int .i64 A, .int .i64 B, .int .i64 I, .int .i64 n] 34)).alloc (.cells #[.int .i64 R, .int .i64 A, .int .i64 B] 3)) (fun iv _ => 3 - (intOf iv).toNat)
  case atStart => exact ⟨0, by omega, rfl, rfl⟩
  case round =>
    obtain ⟨j, hj, rfl, rfl⟩ := hrel
    rcases (show j = 0 ∨ j = 1 ∨ j = 2 ∨ j = 3 by omega) with rfl | rfl | rfl | rfl
    · go_wp2_with fail
      go_roundw
      case rel => exact ⟨1, by decide, rfl, trivial⟩
      case measure => simp [intOf]
    · go_wp2_with fail
      go_roundw
      case rel => exact ⟨2, by decide, rfl, trivial⟩
      case measure => simp [intOf]
    · go_wp2_with fail
      go_roundw
      case rel => exact ⟨3, by decide, rfl, trivial⟩
      case measure => simp [intOf]
    · go_wp2_with fail
      go_ret
      exact ⟨by rw [ckN_hi5 HN.out]; rfl, hb0.alloc (by simp) _⟩
set_option maxRecDepth 100000 in
set_option maxHeartbeats 1000000 in
theorem sf_5_ok (z0 : 0 ≤ R) (y0 : R < 12) (z1 : 0 ≤ A) (y1 : A < 12) (hn : 0 ≤ n) (hn2 : n ≤ 12) : Calls Tryz.prog 24 #[.agg #[.int .i64 5, .int .i64 R, .int .i64 A, .int .i64 B, .int .i64 I, .int .i64 n]] w fun e w' => e = .returned (.int .i64 (ckN 5 n)) ∧ Below w.heap.size w w' := by
  have U : ∀ w, Calls Tryz.prog 51 #[.int .i64 5] w fun e w' => e = .returned (.int .i64 3) ∧ w' = w := fun w => by
    have h := usesR_any 5 w
    rw [show usK 5 = 3 from rfl] at h
    exact h
  have hb0 := (Below.refl w.heap.size w).alloc (Nat.le_refl _) (.cells #[.int .i64 5, .int .i64 R, .int .i64 A, .int .i64 B, .int .i64 I, .int .i64 n] 34)
  have HN : Hid (_) := hn
  have HN2 : Hid (_) := hn2
  have hn3 : ¬ 12 < n := by omega
  have hn4 : ¬ n < 0 := by omega
  go_enter Tryz.func24, Tryz.ntmps24
  go_wp2_with fail
  refine (U _).mono ?_
  rintro e w1 ⟨rfl, rfl⟩
  go_wp2_with fail
  go_loopw [5] (fun iv wr => ∃ (j : Nat), j ≤ 3 ∧ iv = .int .i64 j ∧ wr = (w.alloc (.cells #[.int .i64 5, .int .i64 R, .int .i64 A, .int .i64 B, .int .i64 I, .int .i64 n] 34)).alloc (.cells #[.int .i64 R, .int .i64 A, .int .i64 B] 3)) (fun iv _ => 3 - (intOf iv).toNat)
  case atStart => exact ⟨0, by omega, rfl, rfl⟩
  case round =>
    obtain ⟨j, hj, rfl, rfl⟩ := hrel
    rcases (show j = 0 ∨ j = 1 ∨ j = 2 ∨ j = 3 by omega) with rfl | rfl | rfl | rfl
    · go_wp2_with fail
      go_roundw
      case rel => exact ⟨1, by decide, rfl, trivial⟩
      case measure => simp [intOf]
    · go_wp2_with fail
      go_roundw
      case rel => exact ⟨2, by decide, rfl, trivial⟩
      case measure => simp [intOf]
    · go_wp2_with fail
      go_roundw
      case rel => exact ⟨3, by decide, rfl, trivial⟩
      case measure => simp [intOf]
    · go_wp2_with fail
      go_ret
      exact ⟨by rw [ckN_ok5 HN.out HN2.out]; rfl, hb0.alloc (by simp) _⟩
set_option maxRecDepth 100000 in
set_option maxHeartbeats 1000000 in
theorem sf_1_no (hu : usK k = 1) (z0 : 0 ≤ R) (y0 : R < 12) (h1 : k ≠ 1) (h5 : k ≠ 5) : Calls Tryz.prog 24 #[.agg #[.int .i64 k, .int .i64 R, .int .i64 A, .int .i64 B, .int .i64 I, .int .i64 n]] w fun e w' => e = .returned (.int .i64 (ckN k n)) ∧ Below w.heap.size w w' := by
  have U : ∀ w, Calls Tryz.prog 51 #[.int .i64 k] w fun e w' => e = .returned (.int .i64 1) ∧ w' = w := fun w => by
    have h := usesR_any k w
    rw [hu] at h
    exact h
  have hb0 := (Below.refl w.heap.size w).alloc (Nat.le_refl _) (.cells #[.int .i64 k, .int .i64 R, .int .i64 A, .int .i64 B, .int .i64 I, .int .i64 n] 34)
  have HK : Hid (k ≠ 1 ∧ k ≠ 5) := ⟨h1, h5⟩
  have h1b : (k == 1) = false := by simpa using h1
  have h5b : (k == 5) = false := by simpa using h5
  clear hu
  go_enter Tryz.func24, Tryz.ntmps24
  go_wp2_with fail
  refine (U _).mono ?_
  rintro e w1 ⟨rfl, rfl⟩
  go_wp2_with fail
  go_loopw [5] (fun iv wr => ∃ (j : Nat), j ≤ 3 ∧ iv = .int .i64 j ∧ wr = (w.alloc (.cells #[.int .i64 k, .int .i64 R, .int .i64 A, .int .i64 B, .int .i64 I, .int .i64 n] 34)).alloc (.cells #[.int .i64 R, .int .i64 A, .int .i64 B] 3)) (fun iv _ => 3 - (intOf iv).toNat)
  case atStart => exact ⟨0, by omega, rfl, rfl⟩
  case round =>
    obtain ⟨j, hj, rfl, rfl⟩ := hrel
    rcases (show j = 0 ∨ j = 1 ∨ j = 2 ∨ j = 3 by omega) with rfl | rfl | rfl | rfl
    · go_wp2_with fail
      go_roundw
      case rel => exact ⟨1, by decide, rfl, trivial⟩
      case measure => simp [intOf]
    · go_wp2_with fail
      go_roundw
      case rel => exact ⟨2, by decide, rfl, trivial⟩
      case measure => simp [intOf]
    · go_wp2_with fail
      go_roundw
      case rel => exact ⟨3, by decide, rfl, trivial⟩
      case measure => simp [intOf]
    · go_wp2_with fail
      go_ret
      exact ⟨by rw [ckN_no HK.out.1 HK.out.2]; rfl, hb0.alloc (by simp) _⟩
set_option maxRecDepth 100000 in
set_option maxHeartbeats 1000000 in
theorem sf_3_no (hu : usK k = 3) (z0 : 0 ≤ R) (y0 : R < 12) (z1 : 0 ≤ A) (y1 : A < 12) (h1 : k ≠ 1) (h5 : k ≠ 5) : Calls Tryz.prog 24 #[.agg #[.int .i64 k, .int .i64 R, .int .i64 A, .int .i64 B, .int .i64 I, .int .i64 n]] w fun e w' => e = .returned (.int .i64 (ckN k n)) ∧ Below w.heap.size w w' := by
  have U : ∀ w, Calls Tryz.prog 51 #[.int .i64 k] w fun e w' => e = .returned (.int .i64 3) ∧ w' = w := fun w => by
    have h := usesR_any k w
    rw [hu] at h
    exact h
  have hb0 := (Below.refl w.heap.size w).alloc (Nat.le_refl _) (.cells #[.int .i64 k, .int .i64 R, .int .i64 A, .int .i64 B, .int .i64 I, .int .i64 n] 34)
  have HK : Hid (k ≠ 1 ∧ k ≠ 5) := ⟨h1, h5⟩
  have h1b : (k == 1) = false := by simpa using h1
  have h5b : (k == 5) = false := by simpa using h5
  clear hu
  go_enter Tryz.func24, Tryz.ntmps24
  go_wp2_with fail
  refine (U _).mono ?_
  rintro e w1 ⟨rfl, rfl⟩
  go_wp2_with fail
  go_loopw [5] (fun iv wr => ∃ (j : Nat), j ≤ 3 ∧ iv = .int .i64 j ∧ wr = (w.alloc (.cells #[.int .i64 k, .int .i64 R, .int .i64 A, .int .i64 B, .int .i64 I, .int .i64 n] 34)).alloc (.cells #[.int .i64 R, .int .i64 A, .int .i64 B] 3)) (fun iv _ => 3 - (intOf iv).toNat)
  case atStart => exact ⟨0, by omega, rfl, rfl⟩
  case round =>
    obtain ⟨j, hj, rfl, rfl⟩ := hrel
    rcases (show j = 0 ∨ j = 1 ∨ j = 2 ∨ j = 3 by omega) with rfl | rfl | rfl | rfl
    · go_wp2_with fail
      go_roundw
      case rel => exact ⟨1, by decide, rfl, trivial⟩
      case measure => simp [intOf]
    · go_wp2_with fail
      go_roundw
      case rel => exact ⟨2, by decide, rfl, trivial⟩
      case measure => simp [intOf]
    · go_wp2_with fail
      go_roundw
      case rel => exact ⟨3, by decide, rfl, trivial⟩
      case measure => simp [intOf]
    · go_wp2_with fail
      go_ret
      exact ⟨by rw [ckN_no HK.out.1 HK.out.2]; rfl, hb0.alloc (by simp) _⟩
set_option maxRecDepth 100000 in
set_option maxHeartbeats 1000000 in
theorem sf_7_no (hu : usK k = 7) (z0 : 0 ≤ R) (y0 : R < 12) (z1 : 0 ≤ A) (y1 : A < 12) (z2 : 0 ≤ B) (y2 : B < 12) (h1 : k ≠ 1) (h5 : k ≠ 5) : Calls Tryz.prog 24 #[.agg #[.int .i64 k, .int .i64 R, .int .i64 A, .int .i64 B, .int .i64 I, .int .i64 n]] w fun e w' => e = .returned (.int .i64 (ckN k n)) ∧ Below w.heap.size w w' := by
  have U : ∀ w, Calls Tryz.prog 51 #[.int .i64 k] w fun e w' => e = .returned (.int .i64 7) ∧ w' = w := fun w => by
    have h := usesR_any k w
    rw [hu] at h
    exact h
  have hb0 := (Below.refl w.heap.size w).alloc (Nat.le_refl _) (.cells #[.int .i64 k, .int .i64 R, .int .i64 A, .int .i64 B, .int .i64 I, .int .i64 n] 34)
  have HK : Hid (k ≠ 1 ∧ k ≠ 5) := ⟨h1, h5⟩
  have h1b : (k == 1) = false := by simpa using h1
  have h5b : (k == 5) = false := by simpa using h5
  clear hu
  go_enter Tryz.func24, Tryz.ntmps24
  go_wp2_with fail
  refine (U _).mono ?_
  rintro e w1 ⟨rfl, rfl⟩
  go_wp2_with fail
  go_loopw [5] (fun iv wr => ∃ (j : Nat), j ≤ 3 ∧ iv = .int .i64 j ∧ wr = (w.alloc (.cells #[.int .i64 k, .int .i64 R, .int .i64 A, .int .i64 B, .int .i64 I, .int .i64 n] 34)).alloc (.cells #[.int .i64 R, .int .i64 A, .int .i64 B] 3)) (fun iv _ => 3 - (intOf iv).toNat)
  case atStart => exact ⟨0, by omega, rfl, rfl⟩
  case round =>
    obtain ⟨j, hj, rfl, rfl⟩ := hrel
    rcases (show j = 0 ∨ j = 1 ∨ j = 2 ∨ j = 3 by omega) with rfl | rfl | rfl | rfl
    · go_wp2_with fail
      go_roundw
      case rel => exact ⟨1, by decide, rfl, trivial⟩
      case measure => simp [intOf]
    · go_wp2_with fail
      go_roundw
      case rel => exact ⟨2, by decide, rfl, trivial⟩
      case measure => simp [intOf]
    · go_wp2_with fail
      go_roundw
      case rel => exact ⟨3, by decide, rfl, trivial⟩
      case measure => simp [intOf]
    · go_wp2_with fail
      go_ret
      exact ⟨by rw [ckN_no HK.out.1 HK.out.2]; rfl, hb0.alloc (by simp) _⟩
set_option maxRecDepth 100000 in
set_option maxHeartbeats 1000000 in
theorem sf_6_no (hu : usK k = 6) (z1 : 0 ≤ A) (y1 : A < 12) (z2 : 0 ≤ B) (y2 : B < 12) (h1 : k ≠ 1) (h5 : k ≠ 5) : Calls Tryz.prog 24 #[.agg #[.int .i64 k, .int .i64 R, .int .i64 A, .int .i64 B, .int .i64 I, .int .i64 n]] w fun e w' => e = .returned (.int .i64 (ckN k n)) ∧ Below w.heap.size w w' := by
  have U : ∀ w, Calls Tryz.prog 51 #[.int .i64 k] w fun e w' => e = .returned (.int .i64 6) ∧ w' = w := fun w => by
    have h := usesR_any k w
    rw [hu] at h
    exact h
  have hb0 := (Below.refl w.heap.size w).alloc (Nat.le_refl _) (.cells #[.int .i64 k, .int .i64 R, .int .i64 A, .int .i64 B, .int .i64 I, .int .i64 n] 34)
  have HK : Hid (k ≠ 1 ∧ k ≠ 5) := ⟨h1, h5⟩
  have h1b : (k == 1) = false := by simpa using h1
  have h5b : (k == 5) = false := by simpa using h5
  clear hu
  go_enter Tryz.func24, Tryz.ntmps24
  go_wp2_with fail
  refine (U _).mono ?_
  rintro e w1 ⟨rfl, rfl⟩
  go_wp2_with fail
  go_loopw [5] (fun iv wr => ∃ (j : Nat), j ≤ 3 ∧ iv = .int .i64 j ∧ wr = (w.alloc (.cells #[.int .i64 k, .int .i64 R, .int .i64 A, .int .i64 B, .int .i64 I, .int .i64 n] 34)).alloc (.cells #[.int .i64 R, .int .i64 A, .int .i64 B] 3)) (fun iv _ => 3 - (intOf iv).toNat)
  case atStart => exact ⟨0, by omega, rfl, rfl⟩
  case round =>
    obtain ⟨j, hj, rfl, rfl⟩ := hrel
    rcases (show j = 0 ∨ j = 1 ∨ j = 2 ∨ j = 3 by omega) with rfl | rfl | rfl | rfl
    · go_wp2_with fail
      go_roundw
      case rel => exact ⟨1, by decide, rfl, trivial⟩
      case measure => simp [intOf]
    · go_wp2_with fail
      go_roundw
      case rel => exact ⟨2, by decide, rfl, trivial⟩
      case measure => simp [intOf]
    · go_wp2_with fail
      go_roundw
      case rel => exact ⟨3, by decide, rfl, trivial⟩
      case measure => simp [intOf]
    · go_wp2_with fail
      go_ret
      exact ⟨by rw [ckN_no HK.out.1 HK.out.2]; rfl, hb0.alloc (by simp) _⟩
set_option maxRecDepth 100000 in
set_option maxHeartbeats 1000000 in
theorem sf_0_no (hu : usK k = 0) (h1 : k ≠ 1) (h5 : k ≠ 5) : Calls Tryz.prog 24 #[.agg #[.int .i64 k, .int .i64 R, .int .i64 A, .int .i64 B, .int .i64 I, .int .i64 n]] w fun e w' => e = .returned (.int .i64 (ckN k n)) ∧ Below w.heap.size w w' := by
  have U : ∀ w, Calls Tryz.prog 51 #[.int .i64 k] w fun e w' => e = .returned (.int .i64 0) ∧ w' = w := fun w => by
    have h := usesR_any k w
    rw [hu] at h
    exact h
  have hb0 := (Below.refl w.heap.size w).alloc (Nat.le_refl _) (.cells #[.int .i64 k, .int .i64 R, .int .i64 A, .int .i64 B, .int .i64 I, .int .i64 n] 34)
  have HK : Hid (k ≠ 1 ∧ k ≠ 5) := ⟨h1, h5⟩
  have h1b : (k == 1) = false := by simpa using h1
  have h5b : (k == 5) = false := by simpa using h5
  clear hu
  go_enter Tryz.func24, Tryz.ntmps24
  go_wp2_with fail
  refine (U _).mono ?_
  rintro e w1 ⟨rfl, rfl⟩
  go_wp2_with fail
  go_loopw [5] (fun iv wr => ∃ (j : Nat), j ≤ 3 ∧ iv = .int .i64 j ∧ wr = (w.alloc (.cells #[.int .i64 k, .int .i64 R, .int .i64 A, .int .i64 B, .int .i64 I, .int .i64 n] 34)).alloc (.cells #[.int .i64 R, .int .i64 A, .int .i64 B] 3)) (fun iv _ => 3 - (intOf iv).toNat)
  case atStart => exact ⟨0, by omega, rfl, rfl⟩
  case round =>
    obtain ⟨j, hj, rfl, rfl⟩ := hrel
    rcases (show j = 0 ∨ j = 1 ∨ j = 2 ∨ j = 3 by omega) with rfl | rfl | rfl | rfl
    · go_wp2_with fail
      go_roundw
      case rel => exact ⟨1, by decide, rfl, trivial⟩
      case measure => simp [intOf]
    · go_wp2_with fail
      go_roundw
      case rel => exact ⟨2, by decide, rfl, trivial⟩
      case measure => simp [intOf]
    · go_wp2_with fail
      go_roundw
      case rel => exact ⟨3, by decide, rfl, trivial⟩
      case measure => simp [intOf]
    · go_wp2_with fail
      go_ret
      exact ⟨by rw [ckN_no HK.out.1 HK.out.2]; rfl, hb0.alloc (by simp) _⟩
set_option maxRecDepth 100000 in
set_option maxHeartbeats 1000000 in
theorem sf_none (hu : usK k = -1) : Calls Tryz.prog 24 #[.agg #[.int .i64 k, .int .i64 R, .int .i64 A, .int .i64 B, .int .i64 I, .int .i64 n]] w fun e w' => e = .returned (.int .i64 2) ∧ Below w.heap.size w w' := by
  have U : ∀ w, Calls Tryz.prog 51 #[.int .i64 k] w fun e w' => e = .returned (.int .i64 (-1)) ∧ w' = w := fun w => by
    have h := usesR_any k w
    rw [hu] at h
    exact h
  have hb0 := (Below.refl w.heap.size w).alloc (Nat.le_refl _) (.cells #[.int .i64 k, .int .i64 R, .int .i64 A, .int .i64 B, .int .i64 I, .int .i64 n] 34)
  clear hu
  go_enter Tryz.func24, Tryz.ntmps24
  go_wp2_with fail
  refine (U _).mono ?_
  rintro e w1 ⟨rfl, rfl⟩
  go_wp2_with fail
  go_ret
  exact ⟨rfl, hb0⟩
end

theorem rtB_yes {r : Int} (h : rtB r = true) : 0 ≤ r ∧ r < 12 := by
  unfold rtB at h
  simpa using h
theorem rtB_no {r : Int} (h : rtB r = false) : r < 0 ∨ 12 ≤ r := by
  unfold rtB at h
  rw [Bool.and_eq_false_iff] at h
  rcases h with h | h
  · exact Or.inl (by have := of_decide_eq_false h; omega)
  · exact Or.inr (by have := of_decide_eq_false h; omega)
theorem usK_all (k : Int) : usK k = 1 ∨ usK k = 3 ∨ usK k = 7 ∨ usK k = 6 ∨ usK k = 0 ∨ usK k = -1 := by
  unfold usK
  repeat' split
  all_goals simp

theorem stepF_any (k R A B I n : Int) (w : World) : Calls Tryz.prog 24 #[.agg #[.int .i64 k, .int .i64 R, .int .i64 A, .int .i64 B, .int .i64 I, .int .i64 n]] w fun e w' => e = .returned (.int .i64 (ckC k R A B n)) ∧ Below w.heap.size w w' := by
  have e1 : usK 1 = 1 := rfl
  have e5 : usK 5 = 3 := rfl
  unfold ckC
  rcases usK_all k with hu | hu | hu | hu | hu | hu
  · rw [hu, if_neg (by decide)]
    cases hR : rtB R
    · rw [if_pos (by simp)]
      exact sf_1_0 hu  (rtB_no hR)
    · rw [if_neg (by simp)]
      by_cases hk : k = 1
      · subst hk
        by_cases q1 : n < -1152921504606846976
        · exact sf_1_lo (rtB_yes hR).1 (rtB_yes hR).2 q1
        · by_cases q2 : 1152921504606846976 ≤ n
          · exact sf_1_hi (rtB_yes hR).1 (rtB_yes hR).2 q2
          · exact sf_1_ok (rtB_yes hR).1 (rtB_yes hR).2 (by omega) (by omega)
      · exact sf_1_no hu (rtB_yes hR).1 (rtB_yes hR).2 hk (fun e => by rw [e, e5] at hu; omega)
  · rw [hu, if_neg (by decide)]
    cases hR : rtB R
    · rw [if_pos (by simp)]
      exact sf_3_0 hu  (rtB_no hR)
    · cases hA : rtB A
      · rw [if_pos (by simp)]
        exact sf_3_1 hu (rtB_yes hR).1 (rtB_yes hR).2 (rtB_no hA)
      · rw [if_neg (by simp)]
        by_cases hk : k = 5
        · subst hk
          by_cases q1 : n < 0
          · exact sf_5_lo (rtB_yes hR).1 (rtB_yes hR).2 (rtB_yes hA).1 (rtB_yes hA).2 q1
          · by_cases q2 : 12 < n
            · exact sf_5_hi (rtB_yes hR).1 (rtB_yes hR).2 (rtB_yes hA).1 (rtB_yes hA).2 q2
            · exact sf_5_ok (rtB_yes hR).1 (rtB_yes hR).2 (rtB_yes hA).1 (rtB_yes hA).2 (by omega) (by omega)
        · exact sf_3_no hu (rtB_yes hR).1 (rtB_yes hR).2 (rtB_yes hA).1 (rtB_yes hA).2 (fun e => by rw [e, e1] at hu; omega) hk
  · rw [hu, if_neg (by decide)]
    cases hR : rtB R
    · rw [if_pos (by simp)]
      exact sf_7_0 hu  (rtB_no hR)
    · cases hA : rtB A
      · rw [if_pos (by simp)]
        exact sf_7_1 hu (rtB_yes hR).1 (rtB_yes hR).2 (rtB_no hA)
      · cases hB : rtB B
        · rw [if_pos (by simp)]
          exact sf_7_2 hu (rtB_yes hR).1 (rtB_yes hR).2 (rtB_yes hA).1 (rtB_yes hA).2 (rtB_no hB)
        · rw [if_neg (by simp)]
          exact sf_7_no hu (rtB_yes hR).1 (rtB_yes hR).2 (rtB_yes hA).1 (rtB_yes hA).2 (rtB_yes hB).1 (rtB_yes hB).2 (fun e => by rw [e, e1] at hu; omega) (fun e => by rw [e, e5] at hu; omega)
  · rw [hu, if_neg (by decide)]
    cases hA : rtB A
    · rw [if_pos (by simp)]
      exact sf_6_1 hu  (rtB_no hA)
    · cases hB : rtB B
      · rw [if_pos (by simp)]
        exact sf_6_2 hu (rtB_yes hA).1 (rtB_yes hA).2 (rtB_no hB)
      · rw [if_neg (by simp)]
        exact sf_6_no hu (rtB_yes hA).1 (rtB_yes hA).2 (rtB_yes hB).1 (rtB_yes hB).2 (fun e => by rw [e, e1] at hu; omega) (fun e => by rw [e, e5] at hu; omega)
  · rw [hu, if_neg (by decide)]
    rw [if_neg (by simp)]
    exact sf_0_no hu  (fun e => by rw [e, e1] at hu; omega) (fun e => by rw [e, e5] at hu; omega)
  · rw [if_pos hu]
    exact sf_none hu

end Go.Proofs.YtogknhogphkddaaGreat
